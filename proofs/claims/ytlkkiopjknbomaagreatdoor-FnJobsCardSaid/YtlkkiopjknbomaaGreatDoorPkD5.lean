/- Lemmas for the proofs, part 5 of 6: a symbolic run of the program, and what it needs. -/
import Derived.WalkKit
import Derived.LaidEql
import Derived.Stop.Asserts
import Derived.RowKitTokens
import Derived.Test.YtlkkiopjknbomaaGreatDoorPkD4
namespace Go.Proofs.YtlkkiopjknbomaaGreatDoor
open Go.RowKit
set_option linter.unusedVariables false
set_option linter.unusedSimpArgs false
set_option maxRecDepth 100000
namespace Eng
open Tr
/-- the cells of a plan below i, and the cursor -/
def pcS (bs : List Int) (c : Cu) : Nat → List Int × Cu
  | 0 => ([], c)
  | i + 1 => (if (dBelow bs (pcS bs c i).2 4).1 = 0 then (pcS bs c i).1 ++ [(i : Int)] else (pcS bs c i).1, (dBelow bs (pcS bs c i).2 4).2)
theorem pcS_ok {bs : List Int} {c : Cu} (h : okCu bs c) : ∀ i, okCu bs (pcS bs c i).2
  | 0 => h
  | i + 1 => dBelow_ok _ (pcS_ok h i)
theorem pcS_lt (bs : List Int) (c : Cu) : ∀ i, ∀ x ∈ (pcS bs c i).1, x < (i : Int)
  | 0, x, hx => nomatch hx
  | i + 1, x, hx => by
    have ih := pcS_lt bs c i
    have hx' : x ∈ (if (dBelow bs (pcS bs c i).2 4).1 = 0 then (pcS bs c i).1 ++ [(i : Int)] else (pcS bs c i).1) := hx
    split at hx'
    · rw [List.mem_append, List.mem_singleton] at hx'
      rcases hx' with h | h
      · have := ih x h; omega
      · omega
    · have := ih x hx'; omega
theorem pcS_asc (bs : List Int) (c : Cu) : ∀ i, i ≤ 16 → asc (pcS bs c i).1
  | 0, _ => fun j hj => by have : (pcS bs c 0).1.length = 0 := rfl; omega
  | i + 1, hi => by
    have ih := pcS_asc bs c i (by omega)
    show asc (if (dBelow bs (pcS bs c i).2 4).1 = 0 then (pcS bs c i).1 ++ [(i : Int)] else (pcS bs c i).1)
    split
    · exact asc_snoc ih (pcS_lt bs c i) (by omega)
    · exact ih
theorem pcS_len (bs : List Int) (c : Cu) : ∀ i, (pcS bs c i).1.length ≤ i
  | 0 => Nat.le_refl _
  | i + 1 => by
    have ih := pcS_len bs c i
    show (if (dBelow bs (pcS bs c i).2 4).1 = 0 then (pcS bs c i).1 ++ [(i : Int)] else (pcS bs c i).1).length ≤ i + 1
    split
    · rw [List.length_append]; show _ + 1 ≤ _; omega
    · omega
def dPlan (bs : List Int) (c : Cu) : GPlan × Cu :=
  (⟨(dBelow bs c 4).1, ((dBelow bs c 4).1 + 1 + (dBelow bs (dBelow bs c 4).2 3).1).tmod 4, (pcS bs (dBelow bs (dBelow bs c 4).2 3).2 16).1⟩, (pcS bs (dBelow bs (dBelow bs c 4).2 3).2 16).2)
theorem dPlan_ok {bs : List Int} {c : Cu} (h : okCu bs c) : okCu bs (dPlan bs c).2 ∧ plOk (dPlan bs c).1 ∧ (dPlan bs c).1.Keep < 4 ∧ (dPlan bs c).1.Move < 4 := by
  have h1 := dBelow_lt bs c 4 (by decide)
  have h2 := dBelow_lt bs (dBelow bs c 4).2 3 (by decide)
  have h3 := pcS_asc bs (dBelow bs (dBelow bs c 4).2 3).2 16 (Nat.le_refl _)
  refine ⟨pcS_ok (dBelow_ok _ (dBelow_ok _ h)) 16, ?_⟩
  unfold dPlan plOk
  dsimp only
  generalize (dBelow bs c 4).1 = a at *
  generalize (dBelow bs (dBelow bs c 4).2 3).1 = b at *
  rw [Int.tmod_eq_emod_of_nonneg (by omega)]
  refine ⟨⟨by omega, by omega, by omega, h3⟩, by omega, by omega⟩
def c_PlanR (bs : List Int) (c : Cu) (r : GPlan × Cu) : CFD := ⟨83, [.one (.box 0 0)], [(0, some (.box 127 [ro 5 1 eU bs, (CV.lit (.int .i64 (((c).i : Int)))), (CV.lit (.int .i64 ((c).h)))]))], .sv (.agg [(CV.lit (.int .i64 (r.1.Keep))), (CV.lit (.int .i64 (r.1.Move))), .hd 1]), [(0, some (.box 127 [ro 5 1 eU bs, (CV.lit (.int .i64 (((r.2).i : Int)))), (CV.lit (.int .i64 ((r.2).h)))])), (1, some (.row 3 1 (r.1.Cells.map Tr.eI)))], [1], []⟩
theorem fn_PlanR (bs : List Int) (c : Cu) (r : GPlan × Cu) (hc : okCu bs c) (h : dPlan bs c = r) : Fn Tryz.prog (c_PlanR bs c r) := by
  obtain ⟨a, ha⟩ : ∃ a, dBelow bs c 4 = a := ⟨_, rfl⟩
  have oa : okCu bs a.2 := ha ▸ dBelow_ok _ hc
  have la := dBelow_lt bs c 4 (by decide)
  obtain ⟨b, hb⟩ : ∃ b, dBelow bs a.2 3 = b := ⟨_, rfl⟩
  have ob : okCu bs b.2 := hb ▸ dBelow_ok _ oa
  have lb := dBelow_lt bs a.2 3 (by decide)
  unfold dPlan at h
  rw [ha, hb] at h
  rw [ha] at la
  rw [hb] at lb
  have hS : ∀ i, pcS bs b.2 (i + 1) = (if (dBelow bs (pcS bs b.2 i).2 4).1 = 0 then (pcS bs b.2 i).1 ++ [(i : Int)] else (pcS bs b.2 i).1, (dBelow bs (pcS bs b.2 i).2 4).2) := fun _ => rfl
  have h0 : pcS bs b.2 0 = ([], b.2) := rfl
  have ho := pcS_ok ob
  have hln := pcS_len bs b.2
  generalize pcS bs b.2 = T at *
  subst h
  have hm : inK .i64 ((a.1 + 1 + b.1).tmod 4) := by rw [Int.tmod_eq_emod_of_nonneg (by omega)]; exact i64_ok (by omega) (by omega)
  refine fn_intro tt_ok Tryz.func83 rfl Tryz.call83 Tryz.ntmps83 Tryz.results83 rfl rfl rfl rfl ?_
  intro X ρ0 hb_ hgl_
  dsimp only [c_PlanR]
  try refine nrm ?_
  repeat' (refine ar_id ?_; first | refine st1 ?_ | (refine ar_run (id := 1) [.call (c_BelowR bs c 4 a)] ?_; generalize hQ_ : kont _ _ _ _ = Q_; repeat' (first | (focus ((first | refine as_call3 tt_ok ?_ ?_ | refine as_sure3 tt_ok ?_ ?_ | refine as_cons3 tt_ok ?_ ?_); (try dsimp only [c_BelowR]); (try refine nrm ?_); rotate_left)) | (subst hQ_; refine as_nil ?_))) | (refine ar_drawS (id := 2) tt_ok (by kernel_rfl) [.call (c_BelowR bs a.2 3 b)] ?_; refine ed_hide ?_; intro K_ hK_; repeat' (first | ((first | refine ed_call3 ?_ | refine ed_sure3 ?_ | refine ed_cons3 ?_); refine ed_hide ?_; intro K_ hK_; (try dsimp only [c_BelowR]); (try refine nrmE ?_)) | (refine ed_nil ?_; (repeat subst hK_); dsimp only; refine Exists.intro _ (And.intro rfl (And.intro (by kernel_rfl) (And.intro ?_ ?_))); rotate_left; (try dsimp only [c_BelowR]); (try refine nrm ?_); rotate_right))) | (first | ((first | refine ar_region tt_ok (inps := []) rfl ?_ ?_); rotate_left; (try dsimp only [c_BelowR]); (try refine nrm ?_); rotate_right) | refine ret3 ?_ | refine end3 ?_) | (refine ar_cond rfl trivial ?_ ?_ <;> intro hc_ <;> (try simp only [isNilI, inB, reduceCtorEq, cds] at hc_) <;> (try (first | contradiction | (exfalso; omega)))) | refine ar_until (And.intro ?_ (wk3 ?_)))
  all_goals (first | refine ar_id ?_ | (try (focus ((try refine nrmO ?_); (repeat' (first | exact True.intro | refine And.intro ?_ ?_)); all_goals (try (intro (hg_ : _ = true); (try simp only [isNilI, inB, reduceCtorEq, cds] at hg_); (repeat' (first | exact True.intro | refine And.intro ?_ ?_)))); all_goals (first | exact ob1 | exact fn_BelowR _ _ _ _ hc ha | exact fn_BelowR _ _ _ _ oa hb | exact hm | skip)))))
  refine ar_nilB (b := 3) (j := 2) (T := 3) (q := 1) (r := 90000) rfl rfl rfl rfl rfl ?_
  try dsimp only [putL]
  refine ar_keep 29 (by dsimp only [keepS] <;> exact rfl) ?_
  refine ar_forM (16) (fun i => True) (fun i => [(4, (TV.sv (.one (.lit (.int .i64 (i))))))]) (fun i => [(3, some (.box 37 [(CV.lit (.int .i64 (a.1))), (CV.lit (.int .i64 ((a.1 + 1 + b.1).tmod 4))), .hd 90000])), (90000, some (.row 3 1 ((T i).1.map Tr.eI))), (0, some ((.box 127 [ro 5 1 eU bs, (CV.lit (.int .i64 ((((T i).2).i : Int)))), (CV.lit (.int .i64 (((T i).2).h)))])))]) ?_ ?_ ?_
  rotate_left
  · first | trivial | simp
  (dsimp only [rnCap, capSVs, Int.toNat_natCast, ro, Nat.reduceAdd, Nat.reduceMul, Nat.zero_add, List.map, putT, app, wrapG, gOb, argT, keys, slotOf, dropped, gAnd, wB, rnT, rnS, rnC, rnCs, rnSs, rnM, rnB, rnN, rn, lk, St.over, ded, delL, keepT, menT, menSs, menS, menCs, menC, hasN, resT, SV.cells]; refine wk3 ?_; (focus ((try refine nrmO ?_); (repeat' (first | exact True.intro | refine And.intro ?_ ?_)); all_goals (try (intro (hg_ : _ = true); (try simp only [isNilI, inB, reduceCtorEq, cds] at hg_); (repeat' (first | exact True.intro | refine And.intro ?_ ?_)))); all_goals (first | exact ob1 | exact rfl | skip))))
  rotate_right
  intro i hi_ hiI_
  dsimp only [rnCap, capSVs, Int.toNat_natCast, ro, Nat.reduceAdd, Nat.reduceMul, Nat.zero_add, List.map, putT, app, wrapG, gOb, argT, keys, slotOf, dropped, gAnd, wB, rnT, rnS, rnC, rnCs, rnSs, rnM, rnB, rnN, rn, lk, St.over, ded, delL, keepT, menT, menSs, menS, menCs, menC, hasN, resT, SV.cells]
  obtain ⟨v, hv⟩ : ∃ v, dBelow bs (T i).2 4 = v := ⟨_, rfl⟩
  have hSi := hS i
  rw [hv] at hSi
  have hli := hln i
  repeat' (refine ar_id ?_; first | refine st1 ?_ | (refine ar_run (id := 6) [.call (c_OnceR bs (T i).2 4 v)] ?_; generalize hQ_ : kont _ _ _ _ = Q_; repeat' (first | (focus ((first | refine as_call3 tt_ok ?_ ?_ | refine as_sure3 tt_ok ?_ ?_ | refine as_cons3 tt_ok ?_ ?_); (try dsimp only [c_OnceR]); (try refine nrm ?_); rotate_left)) | (subst hQ_; refine as_nil ?_))) | (refine ar_drawS (id := 7) tt_ok (by kernel_rfl) [] ?_; refine ed_hide ?_; intro K_ hK_; repeat' (first | ((first | refine ed_call3 ?_ | refine ed_sure3 ?_ | refine ed_cons3 ?_); refine ed_hide ?_; intro K_ hK_; (try dsimp only [c_OnceR]); (try refine nrmE ?_)) | (refine ed_nil ?_; (repeat subst hK_); dsimp only; refine Exists.intro _ (And.intro rfl (And.intro (by kernel_rfl) (And.intro ?_ ?_))); rotate_left; (try dsimp only [c_OnceR]); (try refine nrm ?_); rotate_right))) | (first | ((first | refine ar_region tt_ok (inps := []) rfl ?_ ?_); rotate_left; (try dsimp only [c_OnceR]); (try refine nrm ?_); rotate_right) | refine ret3 ?_ | refine end3 ?_) | (refine ar_cond rfl trivial ?_ ?_ <;> intro hc_ <;> (try simp only [isNilI, inB, reduceCtorEq, cds] at hc_) <;> (try (first | contradiction | (exfalso; omega)))) | refine ar_until (And.intro ?_ (wk3 ?_)))
  all_goals (first | refine ar_id ?_ | (try (focus ((try refine nrmO ?_); (repeat' (first | exact True.intro | refine And.intro ?_ ?_)); all_goals (try (intro (hg_ : _ = true); (try simp only [isNilI, inB, reduceCtorEq, cds] at hg_); (repeat' (first | exact True.intro | refine And.intro ?_ ?_)))); all_goals (first | exact ob1 | exact fn_OnceR _ _ _ _ (ho i) hv | skip)))))
  all_goals first
    | (rw [hSi, if_pos hc_, List.map_append, app_eq]; rfl)
    | (rw [hSi, if_neg hc_]; done)
    | (rw [hSi]; done)
    | (rw [show i = 16 by omega]; done)
    | (rw [h0]; done)
    | (rw [h0]; rfl)
def c_Ref7 (bs : List Int) (c : Cu) : CFD := ⟨82, [.one (.box 0 0)], [(0, some (.box 127 [ro 5 1 eU bs, (CV.lit (.int .i64 (((c).i : Int)))), (CV.lit (.int .i64 ((c).h)))]))], .sv (.one (.hd 7)), [(0, some (.box 127 [ro 5 1 eU bs, (CV.lit (.int .i64 ((((dRef bs c).2).i : Int)))), (CV.lit (.int .i64 (((dRef bs c).2).h)))])), (7, some (.row 3 1 ((dRef bs c).1.map Tr.eI)))], [7], []⟩
theorem fn_Ref7 (bs : List Int) (c : Cu) (hc : okCu bs c) : Fn Tryz.prog (c_Ref7 bs c) := by
  obtain ⟨V, hV⟩ : ∃ V, dRef bs c = V := ⟨_, rfl⟩
  have hVe : V = rGo bs 4 0 ([], c) := hV.symm
  have hok := rS_ok hc
  have hlen := rS_len bs c
  have h0 : rS bs c 0 = ([], c) := rfl
  have hS : ∀ i, rS bs c (i + 1) = ((rS bs c i).1 ++ [(dBelow bs (dBelow bs (rS bs c i).2 4).2 12).1], (dBelow bs (dBelow bs (rS bs c i).2 4).2 12).2) := fun _ => rfl
  generalize rS bs c = T at *
  have hB : V = rGo bs (4 - 0) 0 (T 0) := by rw [h0]; exact hVe
  refine fn_intro tt_ok Tryz.func82 rfl Tryz.call82 Tryz.ntmps82 Tryz.results82 rfl rfl rfl rfl ?_
  intro X ρ0 hb_ hgl_
  dsimp only [c_Ref7]
  try refine nrm ?_
  rw [hV]
  repeat' (refine ar_id ?_; first | refine st1 ?_ | (first | ((first | refine ar_region tt_ok (inps := []) rfl ?_ ?_); rotate_left; (try refine nrm ?_); rotate_right) | refine ret3 ?_ | refine end3 ?_) | (refine ar_cond rfl trivial ?_ ?_ <;> intro hc_ <;> (try simp only [isNilI, inB, reduceCtorEq, cds] at hc_) <;> (try (first | contradiction | (exfalso; omega)))) | refine ar_until (And.intro ?_ (wk3 ?_)))
  all_goals (first | refine ar_id ?_ | (try (focus ((try refine nrmO ?_); (repeat' (first | exact True.intro | refine And.intro ?_ ?_)); all_goals (try (intro (hg_ : _ = true); (try simp only [isNilI, inB, reduceCtorEq, cds] at hg_); (repeat' (first | exact True.intro | refine And.intro ?_ ?_)))); all_goals (first | exact ob1 | skip)))))
  refine ar_keep 29 (by dsimp only [keepS] <;> exact rfl) ?_
  refine ar_forM (4) (fun i => V = rGo bs (4 - i) i (T i)) (fun i => [(4, (TV.sv (.one (.lit (.int .i64 (i)))))), (3, (TV.sv (.one (.hd 5))))]) (fun i => [(5, some (.row 3 1 ((T i).1.map Tr.eI))), (0, some ((.box 127 [ro 5 1 eU bs, (CV.lit (.int .i64 ((((T i).2).i : Int)))), (CV.lit (.int .i64 (((T i).2).h)))])))]) ?_ ?_ ?_
  rotate_left
  · first | trivial | simp
  (dsimp only [rnCap, capSVs, Int.toNat_natCast, ro, Nat.reduceAdd, Nat.reduceMul, Nat.zero_add, List.map, putT, app, wrapG, gOb, argT, keys, slotOf, dropped, gAnd, wB, rnT, rnS, rnC, rnCs, rnSs, rnM, rnB, rnN, rn, lk, St.over, ded, delL, keepT, menT, menSs, menS, menCs, menC, hasN, resT, SV.cells]; refine wk3 ?_; (focus ((try refine nrmO ?_); (repeat' (first | exact True.intro | refine And.intro ?_ ?_)); all_goals (try (intro (hg_ : _ = true); (try simp only [isNilI, inB, reduceCtorEq, cds] at hg_); (repeat' (first | exact True.intro | refine And.intro ?_ ?_)))); all_goals (first | exact ob1 | exact rfl | skip))))
  rotate_right
  intro i hi_ hiI_
  dsimp only [rnCap, capSVs, Int.toNat_natCast, ro, Nat.reduceAdd, Nat.reduceMul, Nat.zero_add, List.map, putT, app, wrapG, gOb, argT, keys, slotOf, dropped, gAnd, wB, rnT, rnS, rnC, rnCs, rnSs, rnM, rnB, rnN, rn, lk, St.over, ded, delL, keepT, menT, menSs, menS, menCs, menC, hasN, resT, SV.cells]
  obtain ⟨v, hv⟩ : ∃ v, dBelow bs (T i).2 4 = v := ⟨_, rfl⟩
  have hv4 : 0 ≤ v.1 ∧ v.1 < 4 := hv ▸ dBelow_lt bs _ 4 (by decide)
  have o2 : okCu bs v.2 := hv ▸ dBelow_ok _ (hok i)
  obtain ⟨x, hx⟩ : ∃ x, dBelow bs v.2 12 = x := ⟨_, rfl⟩
  have hSi := hS i
  rw [hv, hx] at hSi
  repeat' (refine ar_id ?_; first | refine st1 ?_ | (refine ar_run (id := 3) [.call (c_BelowR bs (T i).2 4 v)] ?_; generalize hQ_ : kont _ _ _ _ = Q_; repeat' (first | (focus ((first | refine as_call3 tt_ok ?_ ?_ | refine as_sure3 tt_ok ?_ ?_ | refine as_cons3 tt_ok ?_ ?_); (try dsimp only [c_BelowR]); (try refine nrm ?_); rotate_left)) | (subst hQ_; refine as_nil ?_))) | (refine ar_run (id := 5) [.call (c_BelowR bs v.2 12 x)] ?_; generalize hQ_ : kont _ _ _ _ = Q_; repeat' (first | (focus ((first | refine as_call3 tt_ok ?_ ?_ | refine as_sure3 tt_ok ?_ ?_ | refine as_cons3 tt_ok ?_ ?_); (try dsimp only [c_BelowR]); (try refine nrm ?_); rotate_left)) | (subst hQ_; refine as_nil ?_))) | (first | ((first | refine ar_region tt_ok (inps := []) rfl ?_ ?_); rotate_left; (try dsimp only [c_BelowR]); (try refine nrm ?_); rotate_right) | refine ret3 ?_ | refine end3 ?_) | (refine ar_cond rfl trivial ?_ ?_ <;> intro hc_ <;> (try simp only [isNilI, inB, reduceCtorEq, cds] at hc_) <;> (try (first | contradiction | (exfalso; omega)))) | refine ar_until (And.intro ?_ (wk3 ?_)))
  all_goals (first | refine ar_id ?_ | (try (focus ((try refine nrmO ?_); (repeat' (first | exact True.intro | refine And.intro ?_ ?_)); all_goals (try (intro (hg_ : _ = true); (try simp only [isNilI, inB, reduceCtorEq, cds] at hg_); (repeat' (first | exact True.intro | refine And.intro ?_ ?_)))); all_goals (first | exact ob1 | exact fn_BelowR _ _ _ _ (hok i) hv | exact fn_BelowR _ _ _ _ o2 hx | skip)))))
  · simp only [List.length_map, hlen, List.length_cons, List.length_nil]; omega
  · have hlt : (i : Int) < (dBelow bs (T i).2 4).1 := by rw [hv]; exact hc_
    rw [hiI_, rGo_in bs hlt rfl, hS i]
  · rw [hSi, List.map_append, app_eq]; rfl
  · rw [hSi]
  · rw [hSi]
  all_goals first
    | (have hge : ¬ (i : Int) < (dBelow bs (T i).2 4).1 := by rw [hv]; omega
       rw [hiI_, rGo_out bs hge, hv]; done)
    | (rw [h0]; done)
    | (rw [h0]; rfl)
def c_RefR7 (bs : List Int) (c : Cu) (r : List Int × Cu) : CFD := ⟨82, [.one (.box 0 0)], [(0, some (.box 127 [ro 5 1 eU bs, (CV.lit (.int .i64 (((c).i : Int)))), (CV.lit (.int .i64 ((c).h)))]))], .sv (.one (.hd 7)), [(0, some (.box 127 [ro 5 1 eU bs, (CV.lit (.int .i64 (((r.2).i : Int)))), (CV.lit (.int .i64 ((r.2).h)))])), (7, some (.row 3 1 (r.1.map Tr.eI)))], [7], []⟩
theorem fn_RefR7 (bs : List Int) (c : Cu) (r : List Int × Cu) (hc : okCu bs c) (h : dRef bs c = r) : Fn Tryz.prog (c_RefR7 bs c r) := h ▸ fn_Ref7 bs c hc
/-- the page whose cell i is in use -/
def pgS (p : GPlan) (i : Nat) : Int := if (i : Int) ∈ p.Cells then p.Move else p.Keep
def putS (bs : List Int) (p : GPlan) (s : GMachine × Cu) (i : Nat) : GMachine × Cu :=
  if (pPageEntry s.1.Table (pgS p i)).Mode ≠ 0 then
    if (dBelow bs s.2 3).1 = 0 then (s.1, (dBelow bs s.2 3).2)
    else ((pStore s.1 (pgS p i * 16 + (i : Int)) (1 + (dBelow bs (dBelow bs s.2 3).2 999).1)).1, (dBelow bs (dBelow bs s.2 3).2 999).2)
  else s
def ptS (bs : List Int) (p : GPlan) (s : GMachine × Cu) : Nat → GMachine × Cu
  | 0 => s
  | i + 1 => putS bs p (ptS bs p s i) i
theorem sz_store (m : GMachine) (addr v : Int) : sameSz m (pStore m addr v).1 := by
  unfold pStore
  split
  · split
    · exact sameSz.refl _
    · split
      · exact sz_cell _ _ _ _
      · exact sameSz.refl _
  · exact sameSz.refl _
theorem ptS_facts {bs : List Int} {p : GPlan} {s : GMachine × Cu} (h : okCu bs s.2) : ∀ i, okCu bs (ptS bs p s i).2 ∧ sameSz s.1 (ptS bs p s i).1
  | 0 => ⟨h, sameSz.refl _⟩
  | i + 1 => by
    obtain ⟨h1, h2⟩ := ptS_facts h (p := p) i
    show okCu bs (putS bs p (ptS bs p s i) i).2 ∧ sameSz s.1 (putS bs p (ptS bs p s i) i).1
    unfold putS
    split
    · split
      · exact ⟨dBelow_ok _ h1, h2⟩
      · exact ⟨dBelow_ok _ (dBelow_ok _ h1), h2.trans (sz_store _ _ _)⟩
    · exact ⟨h1, h2⟩
/-- a kernel with two pages, and a plan -/
def pK0 (r : List Int) : GKernel := (pKernelNew 4 4 r).1
def pK2 (r : List Int) (p : GPlan) : GKernel := (pNew (pNew (pK0 r) p.Keep).1 p.Move).1
def dPair (bs : List Int) (c : Cu) : (GKernel × GPlan) × Cu :=
  ((⟨(ptS bs (dPlan bs (dRef bs c).2).1 ((pK2 (dRef bs c).1 (dPlan bs (dRef bs c).2).1).Machine, (dPlan bs (dRef bs c).2).2) 16).1, (pK2 (dRef bs c).1 (dPlan bs (dRef bs c).2).1).Calls, (pK2 (dRef bs c).1 (dPlan bs (dRef bs c).2).1).Refuse⟩, (dPlan bs (dRef bs c).2).1),
   (ptS bs (dPlan bs (dRef bs c).2).1 ((pK2 (dRef bs c).1 (dPlan bs (dRef bs c).2).1).Machine, (dPlan bs (dRef bs c).2).2) 16).2)
def c_NewR (k : GKernel) (page : Int) (k' : GKernel) (b : Bool) : CFD := ⟨84, [.one (.box 0 0), (SV.one (.lit (.int .i64 (page))))], [(0, some (.box 35 [.hd 1, .hd 2, .hd 3, (CV.lit (.int .i64 (k.Calls))), .hd 4])), (1, some (.row 33 1 (k.Machine.Frames.Cells.map eIntS))), (2, some (.row 4 1 (k.Machine.Frames.Used.map Tr.eB))), (3, some (.row 45 2 (k.Machine.Table.Entries.map eEntry))), (4, some (.row 3 1 (k.Refuse.map Tr.eI)))], (TV.sv (.one (.lit (.bool (b))))), [(0, some (.box 35 [.hd 1, .hd 2, .hd 3, (CV.lit (.int .i64 ((k').Calls))), .hd 4])), (1, some (.row 33 1 ((k').Machine.Frames.Cells.map eIntS))), (2, some (.row 4 1 ((k').Machine.Frames.Used.map Tr.eB))), (3, some (.row 45 2 ((k').Machine.Table.Entries.map eEntry))), (4, some (.row 3 1 ((k').Refuse.map Tr.eI)))], [], []⟩
theorem fn_NewR (k : GKernel) (page : Int) (k' : GKernel) (b : Bool) (hs : szK8 k) (h0 : 0 ≤ k.Calls) (h1 : k.Calls < 100000) (h : pNew k page = (k', b)) : Fn Tryz.prog (c_NewR k page k' b) := by
  have h' := fn_New k page hs h0 h1
  unfold c_New at h'
  rw [h] at h'
  exact h'
def c_KNew44 (r : List Int) (k : GKernel) (b : Bool) : CFD := ⟨81, [(SV.one (.lit (.int .i64 (4)))), (SV.one (.lit (.int .i64 (4)))), .one (ro 3 1 Tr.eI r)], [], .tup [.agg [.hd 0, .hd 1, .hd 2, (CV.lit (.int .i64 (k.Calls))), .hd 3], (SV.one (.lit (.bool (b))))], [(0, some (.row 33 1 (k.Machine.Frames.Cells.map eIntS))), (1, some (.row 4 1 (k.Machine.Frames.Used.map Tr.eB))), (2, some (.row 45 2 (k.Machine.Table.Entries.map eEntry))), (3, some (.row 3 1 (k.Refuse.map Tr.eI)))], [0, 1, 2, 3], []⟩
theorem fn_KNew44 (r : List Int) (k : GKernel) (b : Bool) (hr : r.length ≤ 1048576) (h : pKernelNew 4 4 r = (k, b)) : Fn Tryz.prog (c_KNew44 r k b) := by
  have h' := fn_KNew 4 4 r hr ⟨by decide, by decide, by decide, by decide⟩
  unfold c_KNew at h'
  rw [h] at h'
  exact h'
def c_PairR (bs : List Int) (c : Cu) (r : (GKernel × GPlan) × Cu) : CFD := ⟨40, [.one (.box 0 0)], [(0, some (.box 127 [ro 5 1 eU bs, (CV.lit (.int .i64 (((c).i : Int)))), (CV.lit (.int .i64 ((c).h)))]))], .tup [.agg [.hd 1, .hd 2, .hd 3, (CV.lit (.int .i64 (r.1.1.Calls))), .hd 4], .agg [(CV.lit (.int .i64 (r.1.2.Keep))), (CV.lit (.int .i64 (r.1.2.Move))), .hd 5]], [(0, some (.box 127 [ro 5 1 eU bs, (CV.lit (.int .i64 (((r.2).i : Int)))), (CV.lit (.int .i64 ((r.2).h)))])), (1, some (.row 33 1 (r.1.1.Machine.Frames.Cells.map eIntS))), (2, some (.row 4 1 (r.1.1.Machine.Frames.Used.map Tr.eB))), (3, some (.row 45 2 (r.1.1.Machine.Table.Entries.map eEntry))), (4, some (.row 3 1 (r.1.1.Refuse.map Tr.eI))), (5, some (.row 3 1 (r.1.2.Cells.map Tr.eI)))], [1, 2, 3, 4, 5], []⟩
theorem sz_new (k : GKernel) (page : Int) : sameSz k.Machine (pNew k page).1.Machine ∧ (pNew k page).1.Refuse = k.Refuse ∧ (pNew k page).1.Calls = k.Calls + 1 := by
  unfold pNew
  split
  · exact ⟨⟨rfl, List.length_set, List.length_set, fun _ _ h => h⟩, rfl, rfl⟩
  · exact ⟨sameSz.refl _, rfl, rfl⟩
theorem zKer : List.map CV.lit ti35.z.cells.toList = [.lit (.slice none 0 0), .lit (.slice none 0 0), .lit (.slice none 0 0), (CV.lit (.int .i64 (0))), .lit (.slice none 0 0)] := rfl
theorem zPln : List.map CV.lit ti37.z.cells.toList = [(CV.lit (.int .i64 (0))), (CV.lit (.int .i64 (0))), .lit (.slice none 0 0)] := rfl
theorem m44 : okM (pMachineNew 4 4).1 ∧ szM7 (pMachineNew 4 4).1 := ⟨by decide +kernel, ⟨by decide +kernel, by decide +kernel, by decide +kernel, by decide +kernel⟩⟩
set_option maxHeartbeats 8000000 in
theorem fn_PairR (bs : List Int) (c : Cu) (r : (GKernel × GPlan) × Cu) (hc : okCu bs c) (h : dPair bs c = r) : Fn Tryz.prog (c_PairR bs c r) := by
  obtain ⟨f, hf⟩ : ∃ f, dRef bs c = f := ⟨_, rfl⟩
  have hrf := rGo_facts bs 4 0 ([], c) hc (fun x hx => nomatch hx)
  rw [show rGo bs 4 0 ([], c) = f from hf] at hrf
  obtain ⟨of, f0, fl⟩ := hrf
  have fl4 : f.1.length ≤ 4 := Nat.le_trans fl (by simp)
  obtain ⟨q, hq⟩ : ∃ q, dPlan bs f.2 = q := ⟨_, rfl⟩
  have hpq := dPlan_ok of
  rw [hq] at hpq
  obtain ⟨oq, hp, hk4, hm4⟩ := hpq
  unfold dPair pK2 pK0 at h
  rw [hf, hq] at h
  have hkn : pKernelNew 4 4 f.1 = (⟨(pMachineNew 4 4).1, 0, f.1⟩, true) := if_pos ⟨by decide, m44.1, ⟨Int.le_refl _, (by show (0 : Int) ≤ 100000; decide)⟩, f0, by show f.1.length ≤ 40; omega⟩
  rw [hkn] at h
  have hs0 : szK8 ⟨(pMachineNew 4 4).1, 0, f.1⟩ := ⟨m44.2, by show f.1.length ≤ _; omega⟩
  have hKN := fn_KNew44 f.1 _ true (by omega) hkn
  have hk0c : (⟨(pMachineNew 4 4).1, 0, f.1⟩ : GKernel).Calls = 0 := rfl
  generalize (⟨(pMachineNew 4 4).1, 0, f.1⟩ : GKernel) = k0 at h hs0 hKN hk0c
  obtain ⟨n1, hn1⟩ : ∃ n1, pNew k0 q.1.Keep = n1 := ⟨_, rfl⟩
  have z1 := sz_new k0 q.1.Keep
  rw [hn1] at z1 h
  have hs1 := szK8_same hs0 z1.1 z1.2.1
  obtain ⟨n2, hn2⟩ : ∃ n2, pNew n1.1 q.1.Move = n2 := ⟨_, rfl⟩
  have z2 := sz_new n1.1 q.1.Move
  rw [hn2] at z2 h
  have hs2 := szK8_same hs1 z2.1 z2.2.1
  have hA := fn_NewR k0 q.1.Keep n1.1 n1.2 hs0 (by omega) (by omega) hn1
  have hB := fn_NewR n1.1 q.1.Move n2.1 n2.2 hs1 (by omega) (by omega) hn2
  have hT := ptS_facts (bs := bs) (p := q.1) (s := (n2.1.Machine, q.2)) oq
  have hS : ∀ i, ptS bs q.1 (n2.1.Machine, q.2) (i + 1) = putS bs q.1 (ptS bs q.1 (n2.1.Machine, q.2) i) i := fun _ => rfl
  have h0 : ptS bs q.1 (n2.1.Machine, q.2) 0 = (n2.1.Machine, q.2) := rfl
  generalize ptS bs q.1 (n2.1.Machine, q.2) = T at *
  subst h
  have hcl := asc_len hp.2.2.2
  have hkk := hp.2.1
  have hmm := hp.2.2.1
  refine fn_intro tt_ok Tryz.func40 rfl Tryz.call40 Tryz.ntmps40 Tryz.results40 rfl rfl rfl rfl ?_
  intro X ρ0 hb_ hgl_
  dsimp only [c_PairR]
  try refine nrm ?_
  repeat' (refine ar_id ?_; first | refine st1 ?_ | (refine ar_run (id := 1) [.call (c_RefR7 bs c f), .call (c_KNew44 f.1 k0 true)] ?_; generalize hQ_ : kont _ _ _ _ = Q_; repeat' (first | (focus ((first | refine as_call3 tt_ok ?_ ?_ | refine as_sure3 tt_ok ?_ ?_ | refine as_cons3 tt_ok ?_ ?_); (try dsimp only [c_KNew44, c_NewR, c_PlanR, c_RefR7]); (try refine nrm ?_); rotate_left)) | (subst hQ_; refine as_nil ?_))) | (refine ar_run (id := 2) [.call (c_PlanR bs f.2 q)] ?_; generalize hQ_ : kont _ _ _ _ = Q_; repeat' (first | (focus ((first | refine as_call3 tt_ok ?_ ?_ | refine as_sure3 tt_ok ?_ ?_ | refine as_cons3 tt_ok ?_ ?_); (try dsimp only [c_KNew44, c_NewR, c_PlanR, c_RefR7]); (try refine nrm ?_); rotate_left)) | (subst hQ_; refine as_nil ?_))) | (refine ar_run (id := 3) [.call (c_NewR k0 q.1.Keep n1.1 n1.2)] ?_; generalize hQ_ : kont _ _ _ _ = Q_; repeat' (first | (focus ((first | refine as_call3 tt_ok ?_ ?_ | refine as_sure3 tt_ok ?_ ?_ | refine as_cons3 tt_ok ?_ ?_); (try dsimp only [c_KNew44, c_NewR, c_PlanR, c_RefR7]); (try refine nrm ?_); rotate_left)) | (subst hQ_; refine as_nil ?_))) | (refine ar_run (id := 4) [.call (c_NewR n1.1 q.1.Move n2.1 n2.2)] ?_; generalize hQ_ : kont _ _ _ _ = Q_; repeat' (first | (focus ((first | refine as_call3 tt_ok ?_ ?_ | refine as_sure3 tt_ok ?_ ?_ | refine as_cons3 tt_ok ?_ ?_); (try dsimp only [c_KNew44, c_NewR, c_PlanR, c_RefR7]); (try refine nrm ?_); rotate_left)) | (subst hQ_; refine as_nil ?_))) | (refine ar_drawS (id := 1) tt_ok (by kernel_rfl) [.call (c_RefR7 bs c f), .call (c_KNew44 f.1 k0 true)] ?_; refine ed_hide ?_; intro K_ hK_; repeat' (first | ((first | refine ed_call3 ?_ | refine ed_sure3 ?_ | refine ed_cons3 ?_); refine ed_hide ?_; intro K_ hK_; (try dsimp only [c_KNew44, c_NewR, c_PlanR, c_RefR7]); (try refine nrmE ?_)) | (refine ed_nil ?_; (repeat subst hK_); dsimp only; refine Exists.intro _ (And.intro rfl (And.intro (by kernel_rfl) (And.intro ?_ ?_))); rotate_left; (try dsimp only [c_KNew44, c_NewR, c_PlanR, c_RefR7]); (try refine nrm ?_); rotate_right))) | (first | ((first | refine ar_region tt_ok (inps := []) rfl ?_ ?_); rotate_left; (try dsimp only [c_KNew44, c_NewR, c_PlanR, c_RefR7]); (try refine nrm ?_); rotate_right) | refine ret3 ?_ | refine end3 ?_) | (refine ar_cond rfl trivial ?_ ?_ <;> intro hc_ <;> (try simp only [isNilI, inB, reduceCtorEq, cds] at hc_) <;> (try (first | contradiction | (exfalso; omega)))) | refine ar_until (And.intro ?_ (wk3 ?_)))
  all_goals (first | refine ar_id ?_ | (try (focus ((try refine nrmO ?_); (repeat' (first | exact True.intro | refine And.intro ?_ ?_)); all_goals (try (intro (hg_ : _ = true); (try simp only [isNilI, inB, reduceCtorEq, cds] at hg_); (repeat' (first | exact True.intro | refine And.intro ?_ ?_)))); all_goals (first | exact ob1 | exact fn_RefR7 _ _ _ hc hf | exact hKN | exact fn_PlanR _ _ _ of hq | exact hA | exact hB | skip)))))
  dsimp only [zKer, zPln]
  refine ar_blocks [0, 2, 3, 4, 6, 13000, 13001, 13002, 13003, 17001] (by dsimp only [selB, hasN] <;> exact rfl) ?_
  refine ar_keep 477 (by dsimp only [keepS] <;> exact rfl) ?_
  refine ar_forM (16) (fun i => True) (fun i => [(7, (TV.sv (.one (.lit (.int .i64 (i))))))]) (fun i => [(4, some (.box 35 [.hd 13000, .hd 13001, .hd 13002, (CV.lit (.int .i64 (n2.1.Calls))), .hd 13003])), (13000, some (.row 33 1 (((T i).1).Frames.Cells.map eIntS))), (13001, some (.row 4 1 (((T i).1).Frames.Used.map Tr.eB))), (13002, some (.row 45 2 (((T i).1).Table.Entries.map eEntry))), (0, some ((.box 127 [ro 5 1 eU bs, (CV.lit (.int .i64 ((((T i).2).i : Int)))), (CV.lit (.int .i64 (((T i).2).h)))])))]) ?_ ?_ ?_
  rotate_left
  · first | trivial | simp
  (dsimp only [rnCap, capSVs, Int.toNat_natCast, ro, Nat.reduceAdd, Nat.reduceMul, Nat.zero_add, List.map, putT, app, wrapG, gOb, argT, keys, slotOf, dropped, gAnd, wB, rnT, rnS, rnC, rnCs, rnSs, rnM, rnB, rnN, rn, lk, St.over, ded, delL, keepT, menT, menSs, menS, menCs, menC, hasN, resT, SV.cells]; refine wk3 ?_; (focus ((try refine nrmO ?_); (repeat' (first | exact True.intro | refine And.intro ?_ ?_)); all_goals (try (intro (hg_ : _ = true); (try simp only [isNilI, inB, reduceCtorEq, cds] at hg_); (repeat' (first | exact True.intro | refine And.intro ?_ ?_)))); all_goals (first | exact ob1 | exact rfl | skip))))
  rotate_right
  intro i hi_ hiI_
  dsimp only [rnCap, capSVs, Int.toNat_natCast, ro, Nat.reduceAdd, Nat.reduceMul, Nat.zero_add, List.map, putT, app, wrapG, gOb, argT, keys, slotOf, dropped, gAnd, wB, rnT, rnS, rnC, rnCs, rnSs, rnM, rnB, rnN, rn, lk, St.over, ded, delL, keepT, menT, menSs, menS, menCs, menC, hasN, resT, SV.cells]
  have hTi := hT i
  have hSi := hS i
  have hsz : szM7 (T i).1 := ⟨by rw [hTi.2.c]; exact hs2.m.c, by rw [hTi.2.u]; exact hs2.m.u, hTi.2.r 1048576 (by decide) hs2.m.r, by rw [hTi.2.e]; exact hs2.m.e⟩
  have hen := hsz.e
  have hpg : pgS q.1 i = if (i : Int) ∈ q.1.Cells then q.1.Move else q.1.Keep := rfl
  obtain ⟨g, hg⟩ : ∃ g, pgS q.1 i = g := ⟨_, rfl⟩
  have hg4 : 0 ≤ g ∧ g < 4 := by rw [← hg, hpg]; split <;> omega
  obtain ⟨on, hon⟩ : ∃ on, dBelow bs (T i).2 3 = on := ⟨_, rfl⟩
  have oon : okCu bs on.2 := hon ▸ dBelow_ok _ hTi.1
  obtain ⟨b9, hb9⟩ : ∃ b9, dBelow bs on.2 999 = b9 := ⟨_, rfl⟩
  have lb9 := dBelow_lt bs on.2 999 (by decide)
  rw [hb9] at lb9
  obtain ⟨st, hst⟩ : ∃ st, pStore (T i).1 (g * 16 + (i : Int)) (1 + b9.1) = st := ⟨_, rfl⟩
  unfold putS at hSi
  rw [hg, hon, hb9, hst] at hSi
  rw [hg] at hpg
  by_cases hx : (i : Int) ∈ q.1.Cells
  · have hgp : g = q.1.Move := by rw [hpg]; exact if_pos hx
    by_cases hm : (pPageEntry (T i).1.Table g).Mode ≠ 0
    · rw [if_pos hm] at hSi
      repeat' (refine ar_id ?_; first | refine st1 ?_ | (refine ar_run (id := 8) [] ?_; generalize hQ_ : kont _ _ _ _ = Q_; repeat' (first | (focus ((first | refine as_call3 tt_ok ?_ ?_ | refine as_sure3 tt_ok ?_ ?_ | refine as_cons3 tt_ok ?_ ?_); (try dsimp only [c_BelowR, c_Has, c_OnceR, c_PageEntry, c_StoreS]); (try refine nrm ?_); rotate_left)) | (subst hQ_; refine as_nil ?_))) | (refine ar_run (id := 9) [.call (c_Has q.1.Cells i)] ?_; generalize hQ_ : kont _ _ _ _ = Q_; repeat' (first | (focus ((first | refine as_call3 tt_ok ?_ ?_ | refine as_sure3 tt_ok ?_ ?_ | refine as_cons3 tt_ok ?_ ?_); (try dsimp only [c_BelowR, c_Has, c_OnceR, c_PageEntry, c_StoreS]); (try refine nrm ?_); rotate_left)) | (subst hQ_; refine as_nil ?_))) | (refine ar_run (id := 10) [] ?_; generalize hQ_ : kont _ _ _ _ = Q_; repeat' (first | (focus ((first | refine as_call3 tt_ok ?_ ?_ | refine as_sure3 tt_ok ?_ ?_ | refine as_cons3 tt_ok ?_ ?_); (try dsimp only [c_BelowR, c_Has, c_OnceR, c_PageEntry, c_StoreS]); (try refine nrm ?_); rotate_left)) | (subst hQ_; refine as_nil ?_))) | (refine ar_run (id := 11) [.call (c_PageEntry (T i).1.Table g), .sure (c_OnceR bs (T i).2 3 on)] ?_; generalize hQ_ : kont _ _ _ _ = Q_; repeat' (first | (focus ((first | refine as_call3 tt_ok ?_ ?_ | refine as_sure3 tt_ok ?_ ?_ | refine as_cons3 tt_ok ?_ ?_); (try dsimp only [c_BelowR, c_Has, c_OnceR, c_PageEntry, c_StoreS]); (try refine nrm ?_); rotate_left)) | (subst hQ_; refine as_nil ?_))) | (refine ar_run (id := 7) [] ?_; generalize hQ_ : kont _ _ _ _ = Q_; repeat' (first | (focus ((first | refine as_call3 tt_ok ?_ ?_ | refine as_sure3 tt_ok ?_ ?_ | refine as_cons3 tt_ok ?_ ?_); (try dsimp only [c_BelowR, c_Has, c_OnceR, c_PageEntry, c_StoreS]); (try refine nrm ?_); rotate_left)) | (subst hQ_; refine as_nil ?_))) | (refine ar_drawS (id := 12) tt_ok (by kernel_rfl) [.call (c_BelowR bs on.2 999 b9), .call (c_StoreS (T i).1 (g * 16 + (i : Int)) (1 + b9.1) st.1 st.2)] ?_; refine ed_hide ?_; intro K_ hK_; repeat' (first | ((first | refine ed_call3 ?_ | refine ed_sure3 ?_ | refine ed_cons3 ?_); refine ed_hide ?_; intro K_ hK_; (try dsimp only [c_BelowR, c_Has, c_OnceR, c_PageEntry, c_StoreS]); (try refine nrmE ?_)) | (refine ed_nil ?_; (repeat subst hK_); dsimp only; refine Exists.intro _ (And.intro rfl (And.intro (by kernel_rfl) (And.intro ?_ ?_))); rotate_left; (try dsimp only [c_BelowR, c_Has, c_OnceR, c_PageEntry, c_StoreS]); (try refine nrm ?_); rotate_right))) | (refine ar_drawS (id := 13) tt_ok (by kernel_rfl) [] ?_; refine ed_hide ?_; intro K_ hK_; repeat' (first | ((first | refine ed_call3 ?_ | refine ed_sure3 ?_ | refine ed_cons3 ?_); refine ed_hide ?_; intro K_ hK_; (try dsimp only [c_BelowR, c_Has, c_OnceR, c_PageEntry, c_StoreS]); (try refine nrmE ?_)) | (refine ed_nil ?_; (repeat subst hK_); dsimp only; refine Exists.intro _ (And.intro rfl (And.intro (by kernel_rfl) (And.intro ?_ ?_))); rotate_left; (try dsimp only [c_BelowR, c_Has, c_OnceR, c_PageEntry, c_StoreS]); (try refine nrm ?_); rotate_right))) | (first | ((first | refine ar_region tt_ok (inps := []) rfl ?_ ?_); rotate_left; (try dsimp only [c_BelowR, c_Has, c_OnceR, c_PageEntry, c_StoreS]); (try refine nrm ?_); rotate_right) | refine ret3 ?_ | refine end3 ?_) | (refine ar_cond rfl trivial ?_ ?_ <;> intro hc_ <;> (try simp only [isNilI, inB, reduceCtorEq, cds] at hc_) <;> (try (first | contradiction | (exfalso; omega) | (exfalso; grind)))) | refine ar_until (And.intro ?_ (wk3 ?_)))
      all_goals (first | refine ar_id ?_ | (try (focus ((try refine nrmO ?_); (repeat' (first | exact True.intro | refine And.intro ?_ ?_)); all_goals (try (intro (hg_ : _ = true); (try simp only [isNilI, inB, reduceCtorEq, cds] at hg_); (repeat' (first | exact True.intro | refine And.intro ?_ ?_)))); all_goals (first | exact ob1 | exact fn_Has _ _ (by omega) | exact fn_PageEntry _ _ hen | exact fn_OnceR _ _ _ _ hTi.1 hon | exact fn_BelowR _ _ _ _ oon hb9 | exact fn_StoreS _ _ _ _ _ hsz (by omega) hst | exact hgp | exact hgp.symm | exact bne_iff_ne.2 hm | exact decide_eq_true hm | exact congrArg not (decide_eq_false hm) | exact congrArg not (beq_eq_false_iff_ne.2 hm) | skip)))))
      all_goals first
        | (rw [hSi, if_neg hc_.2]; done)
        | (rw [hSi, if_pos (hc_.resolve_left hm)]; done)
        | (rw [hSi]; done)
        | (rw [show i = 16 by omega]; done)
    · rw [if_neg hm] at hSi
      have hm0 : (pPageEntry (T i).1.Table g).Mode = 0 := Classical.not_not.mp hm
      repeat' (refine ar_id ?_; first | refine st1 ?_ | (refine ar_run (id := 8) [] ?_; generalize hQ_ : kont _ _ _ _ = Q_; repeat' (first | (focus ((first | refine as_call3 tt_ok ?_ ?_ | refine as_sure3 tt_ok ?_ ?_ | refine as_cons3 tt_ok ?_ ?_); (try dsimp only [c_Has, c_PageEntry]); (try refine nrm ?_); rotate_left)) | (subst hQ_; refine as_nil ?_))) | (refine ar_run (id := 9) [.call (c_Has q.1.Cells i)] ?_; generalize hQ_ : kont _ _ _ _ = Q_; repeat' (first | (focus ((first | refine as_call3 tt_ok ?_ ?_ | refine as_sure3 tt_ok ?_ ?_ | refine as_cons3 tt_ok ?_ ?_); (try dsimp only [c_Has, c_PageEntry]); (try refine nrm ?_); rotate_left)) | (subst hQ_; refine as_nil ?_))) | (refine ar_run (id := 10) [] ?_; generalize hQ_ : kont _ _ _ _ = Q_; repeat' (first | (focus ((first | refine as_call3 tt_ok ?_ ?_ | refine as_sure3 tt_ok ?_ ?_ | refine as_cons3 tt_ok ?_ ?_); (try dsimp only [c_Has, c_PageEntry]); (try refine nrm ?_); rotate_left)) | (subst hQ_; refine as_nil ?_))) | (refine ar_run (id := 11) [.call (c_PageEntry (T i).1.Table g), .skip (SV.one (.lit (.bool (false))))] ?_; generalize hQ_ : kont _ _ _ _ = Q_; repeat' (first | (focus ((first | refine as_call3 tt_ok ?_ ?_ | refine as_sure3 tt_ok ?_ ?_ | refine as_cons3 tt_ok ?_ ?_); (try dsimp only [c_Has, c_PageEntry]); (try refine nrm ?_); rotate_left)) | (subst hQ_; refine as_nil ?_))) | (refine ar_run (id := 7) [] ?_; generalize hQ_ : kont _ _ _ _ = Q_; repeat' (first | (focus ((first | refine as_call3 tt_ok ?_ ?_ | refine as_sure3 tt_ok ?_ ?_ | refine as_cons3 tt_ok ?_ ?_); (try dsimp only [c_Has, c_PageEntry]); (try refine nrm ?_); rotate_left)) | (subst hQ_; refine as_nil ?_))) | (refine ar_drawS (id := 13) tt_ok (by kernel_rfl) [] ?_; refine ed_hide ?_; intro K_ hK_; repeat' (first | ((first | refine ed_call3 ?_ | refine ed_sure3 ?_ | refine ed_cons3 ?_); refine ed_hide ?_; intro K_ hK_; (try dsimp only [c_Has, c_PageEntry]); (try refine nrmE ?_)) | (refine ed_nil ?_; (repeat subst hK_); dsimp only; refine Exists.intro _ (And.intro rfl (And.intro (by kernel_rfl) (And.intro ?_ ?_))); rotate_left; (try dsimp only [c_Has, c_PageEntry]); (try refine nrm ?_); rotate_right))) | (first | ((first | refine ar_region tt_ok (inps := []) rfl ?_ ?_); rotate_left; (try dsimp only [c_Has, c_PageEntry]); (try refine nrm ?_); rotate_right) | refine ret3 ?_ | refine end3 ?_) | (refine ar_cond rfl trivial ?_ ?_ <;> intro hc_ <;> (try simp only [isNilI, inB, reduceCtorEq, cds] at hc_) <;> (try (first | contradiction | (exfalso; omega) | (exfalso; grind)))) | refine ar_until (And.intro ?_ (wk3 ?_)))
      all_goals (first | refine ar_id ?_ | (try (focus ((try refine nrmO ?_); (repeat' (first | exact True.intro | refine And.intro ?_ ?_)); all_goals (try (intro (hg_ : _ = true); (try simp only [isNilI, inB, reduceCtorEq, cds] at hg_); (repeat' (first | exact True.intro | refine And.intro ?_ ?_)))); all_goals (first | exact ob1 | exact fn_Has _ _ (by omega) | exact fn_PageEntry _ _ hen | exact hgp | exact hgp.symm | exact bne_eq_false_iff_eq.2 hm0 | exact (bne_eq_false_iff_eq.2 hm0).symm | exact decide_eq_false hm | exact congrArg not (decide_eq_true hm0) | exact congrArg not (beq_iff_eq.2 hm0) | skip)))))
      all_goals first
        | (rw [hSi, if_neg hc_.2]; done)
        | (rw [hSi, if_pos (hc_.resolve_left hm)]; done)
        | (rw [hSi]; done)
        | (rw [show i = 16 by omega]; done)
  · have hgp : g = q.1.Keep := by rw [hpg]; exact if_neg hx
    by_cases hm : (pPageEntry (T i).1.Table g).Mode ≠ 0
    · rw [if_pos hm] at hSi
      repeat' (refine ar_id ?_; first | refine st1 ?_ | (refine ar_run (id := 8) [] ?_; generalize hQ_ : kont _ _ _ _ = Q_; repeat' (first | (focus ((first | refine as_call3 tt_ok ?_ ?_ | refine as_sure3 tt_ok ?_ ?_ | refine as_cons3 tt_ok ?_ ?_); (try dsimp only [c_BelowR, c_Has, c_OnceR, c_PageEntry, c_StoreS]); (try refine nrm ?_); rotate_left)) | (subst hQ_; refine as_nil ?_))) | (refine ar_run (id := 9) [.call (c_Has q.1.Cells i)] ?_; generalize hQ_ : kont _ _ _ _ = Q_; repeat' (first | (focus ((first | refine as_call3 tt_ok ?_ ?_ | refine as_sure3 tt_ok ?_ ?_ | refine as_cons3 tt_ok ?_ ?_); (try dsimp only [c_BelowR, c_Has, c_OnceR, c_PageEntry, c_StoreS]); (try refine nrm ?_); rotate_left)) | (subst hQ_; refine as_nil ?_))) | (refine ar_run (id := 11) [.call (c_PageEntry (T i).1.Table g), .sure (c_OnceR bs (T i).2 3 on)] ?_; generalize hQ_ : kont _ _ _ _ = Q_; repeat' (first | (focus ((first | refine as_call3 tt_ok ?_ ?_ | refine as_sure3 tt_ok ?_ ?_ | refine as_cons3 tt_ok ?_ ?_); (try dsimp only [c_BelowR, c_Has, c_OnceR, c_PageEntry, c_StoreS]); (try refine nrm ?_); rotate_left)) | (subst hQ_; refine as_nil ?_))) | (refine ar_run (id := 7) [] ?_; generalize hQ_ : kont _ _ _ _ = Q_; repeat' (first | (focus ((first | refine as_call3 tt_ok ?_ ?_ | refine as_sure3 tt_ok ?_ ?_ | refine as_cons3 tt_ok ?_ ?_); (try dsimp only [c_BelowR, c_Has, c_OnceR, c_PageEntry, c_StoreS]); (try refine nrm ?_); rotate_left)) | (subst hQ_; refine as_nil ?_))) | (refine ar_drawS (id := 12) tt_ok (by kernel_rfl) [.call (c_BelowR bs on.2 999 b9), .call (c_StoreS (T i).1 (g * 16 + (i : Int)) (1 + b9.1) st.1 st.2)] ?_; refine ed_hide ?_; intro K_ hK_; repeat' (first | ((first | refine ed_call3 ?_ | refine ed_sure3 ?_ | refine ed_cons3 ?_); refine ed_hide ?_; intro K_ hK_; (try dsimp only [c_BelowR, c_Has, c_OnceR, c_PageEntry, c_StoreS]); (try refine nrmE ?_)) | (refine ed_nil ?_; (repeat subst hK_); dsimp only; refine Exists.intro _ (And.intro rfl (And.intro (by kernel_rfl) (And.intro ?_ ?_))); rotate_left; (try dsimp only [c_BelowR, c_Has, c_OnceR, c_PageEntry, c_StoreS]); (try refine nrm ?_); rotate_right))) | (refine ar_drawS (id := 13) tt_ok (by kernel_rfl) [] ?_; refine ed_hide ?_; intro K_ hK_; repeat' (first | ((first | refine ed_call3 ?_ | refine ed_sure3 ?_ | refine ed_cons3 ?_); refine ed_hide ?_; intro K_ hK_; (try dsimp only [c_BelowR, c_Has, c_OnceR, c_PageEntry, c_StoreS]); (try refine nrmE ?_)) | (refine ed_nil ?_; (repeat subst hK_); dsimp only; refine Exists.intro _ (And.intro rfl (And.intro (by kernel_rfl) (And.intro ?_ ?_))); rotate_left; (try dsimp only [c_BelowR, c_Has, c_OnceR, c_PageEntry, c_StoreS]); (try refine nrm ?_); rotate_right))) | (first | ((first | refine ar_region tt_ok (inps := []) rfl ?_ ?_); rotate_left; (try dsimp only [c_BelowR, c_Has, c_OnceR, c_PageEntry, c_StoreS]); (try refine nrm ?_); rotate_right) | refine ret3 ?_ | refine end3 ?_) | (refine ar_cond rfl trivial ?_ ?_ <;> intro hc_ <;> (try simp only [isNilI, inB, reduceCtorEq, cds] at hc_) <;> (try (first | contradiction | (exfalso; omega) | (exfalso; grind)))) | refine ar_until (And.intro ?_ (wk3 ?_)))
      all_goals (first | refine ar_id ?_ | (try (focus ((try refine nrmO ?_); (repeat' (first | exact True.intro | refine And.intro ?_ ?_)); all_goals (try (intro (hg_ : _ = true); (try simp only [isNilI, inB, reduceCtorEq, cds] at hg_); (repeat' (first | exact True.intro | refine And.intro ?_ ?_)))); all_goals (first | exact ob1 | exact fn_Has _ _ (by omega) | exact fn_PageEntry _ _ hen | exact fn_OnceR _ _ _ _ hTi.1 hon | exact fn_BelowR _ _ _ _ oon hb9 | exact fn_StoreS _ _ _ _ _ hsz (by omega) hst | exact hgp | exact hgp.symm | exact bne_iff_ne.2 hm | exact decide_eq_true hm | exact congrArg not (decide_eq_false hm) | exact congrArg not (beq_eq_false_iff_ne.2 hm) | skip)))))
      all_goals first
        | (rw [hSi, if_neg hc_.2]; done)
        | (rw [hSi, if_pos (hc_.resolve_left hm)]; done)
        | (rw [hSi]; done)
        | (rw [show i = 16 by omega]; done)
    · rw [if_neg hm] at hSi
      have hm0 : (pPageEntry (T i).1.Table g).Mode = 0 := Classical.not_not.mp hm
      repeat' (refine ar_id ?_; first | refine st1 ?_ | (refine ar_run (id := 8) [] ?_; generalize hQ_ : kont _ _ _ _ = Q_; repeat' (first | (focus ((first | refine as_call3 tt_ok ?_ ?_ | refine as_sure3 tt_ok ?_ ?_ | refine as_cons3 tt_ok ?_ ?_); (try dsimp only [c_Has, c_PageEntry]); (try refine nrm ?_); rotate_left)) | (subst hQ_; refine as_nil ?_))) | (refine ar_run (id := 9) [.call (c_Has q.1.Cells i)] ?_; generalize hQ_ : kont _ _ _ _ = Q_; repeat' (first | (focus ((first | refine as_call3 tt_ok ?_ ?_ | refine as_sure3 tt_ok ?_ ?_ | refine as_cons3 tt_ok ?_ ?_); (try dsimp only [c_Has, c_PageEntry]); (try refine nrm ?_); rotate_left)) | (subst hQ_; refine as_nil ?_))) | (refine ar_run (id := 11) [.call (c_PageEntry (T i).1.Table g), .skip (SV.one (.lit (.bool (false))))] ?_; generalize hQ_ : kont _ _ _ _ = Q_; repeat' (first | (focus ((first | refine as_call3 tt_ok ?_ ?_ | refine as_sure3 tt_ok ?_ ?_ | refine as_cons3 tt_ok ?_ ?_); (try dsimp only [c_Has, c_PageEntry]); (try refine nrm ?_); rotate_left)) | (subst hQ_; refine as_nil ?_))) | (refine ar_run (id := 7) [] ?_; generalize hQ_ : kont _ _ _ _ = Q_; repeat' (first | (focus ((first | refine as_call3 tt_ok ?_ ?_ | refine as_sure3 tt_ok ?_ ?_ | refine as_cons3 tt_ok ?_ ?_); (try dsimp only [c_Has, c_PageEntry]); (try refine nrm ?_); rotate_left)) | (subst hQ_; refine as_nil ?_))) | (refine ar_drawS (id := 13) tt_ok (by kernel_rfl) [] ?_; refine ed_hide ?_; intro K_ hK_; repeat' (first | ((first | refine ed_call3 ?_ | refine ed_sure3 ?_ | refine ed_cons3 ?_); refine ed_hide ?_; intro K_ hK_; (try dsimp only [c_Has, c_PageEntry]); (try refine nrmE ?_)) | (refine ed_nil ?_; (repeat subst hK_); dsimp only; refine Exists.intro _ (And.intro rfl (And.intro (by kernel_rfl) (And.intro ?_ ?_))); rotate_left; (try dsimp only [c_Has, c_PageEntry]); (try refine nrm ?_); rotate_right))) | (first | ((first | refine ar_region tt_ok (inps := []) rfl ?_ ?_); rotate_left; (try dsimp only [c_Has, c_PageEntry]); (try refine nrm ?_); rotate_right) | refine ret3 ?_ | refine end3 ?_) | (refine ar_cond rfl trivial ?_ ?_ <;> intro hc_ <;> (try simp only [isNilI, inB, reduceCtorEq, cds] at hc_) <;> (try (first | contradiction | (exfalso; omega) | (exfalso; grind)))) | refine ar_until (And.intro ?_ (wk3 ?_)))
      all_goals (first | refine ar_id ?_ | (try (focus ((try refine nrmO ?_); (repeat' (first | exact True.intro | refine And.intro ?_ ?_)); all_goals (try (intro (hg_ : _ = true); (try simp only [isNilI, inB, reduceCtorEq, cds] at hg_); (repeat' (first | exact True.intro | refine And.intro ?_ ?_)))); all_goals (first | exact ob1 | exact fn_Has _ _ (by omega) | exact fn_PageEntry _ _ hen | exact hgp | exact hgp.symm | exact bne_eq_false_iff_eq.2 hm0 | exact (bne_eq_false_iff_eq.2 hm0).symm | exact decide_eq_false hm | exact congrArg not (decide_eq_true hm0) | exact congrArg not (beq_iff_eq.2 hm0) | skip)))))
      all_goals first
        | (rw [hSi, if_neg hc_.2]; done)
        | (rw [hSi, if_pos (hc_.resolve_left hm)]; done)
        | (rw [hSi]; done)
        | (rw [show i = 16 by omega]; done)
  all_goals first
    | (rw [h0]; done)
    | (rw [h0]; rfl)
end Eng
end Go.Proofs.YtlkkiopjknbomaaGreatDoor
namespace Go.Proofs.YtlkkiopjknbomaaGreatDoor
open Go.RowKit
set_option linter.unusedVariables false
set_option linter.unusedSimpArgs false
set_option maxRecDepth 100000
namespace Eng
open Tr
theorem take_eqs {α : Type} (d : α) {a b : List α} {i : Nat} (h : a.take i = b.take i) (ha : i < a.length) (hb : i < b.length) (he : a.getD i d = b.getD i d) : a.take (i + 1) = b.take (i + 1) := by
  rw [take_getD a d ha, take_getD b d hb, h, he]
theorem take_ne {α : Type} (d : α) {a b : List α} {i : Nat} (ha : i < a.length) (hb : i < b.length) (he : ¬ a.getD i d = b.getD i d) : ¬ a = b := fun h => he (by rw [h])
theorem take_all {α : Type} {a b : List α} {i : Nat} (h : a.take i = b.take i) (ha : ¬ i < a.length) (hl : a.length = b.length) : a = b := by
  rw [List.take_of_length_le (by omega), List.take_of_length_le (by omega)] at h
  exact h
def c_sameI (a b : List Int) : CFD := ⟨17, [.one (ro 3 1 Tr.eI a), .one (ro 3 1 Tr.eI b)], [], (TV.sv (.one (.lit (.bool (decide (a = b)))))), [], [], []⟩
theorem fn_sameI (a b : List Int) (ha : a.length ≤ 1048576) : Fn Tryz.prog (c_sameI a b) := by
  refine fn_intro tt_ok Tryz.func17 rfl Tryz.call17 Tryz.ntmps17 Tryz.results17 rfl rfl rfl rfl ?_
  intro X ρ0 hb_ hgl_
  dsimp only [c_sameI]
  try refine nrm ?_
  repeat' (refine ar_id ?_; first | refine st1 ?_ | (first | ((first | refine ar_region tt_ok (inps := []) rfl ?_ ?_); rotate_left; (try refine nrm ?_); rotate_right) | refine ret3 ?_ | refine end3 ?_) | (refine ar_cond rfl trivial ?_ ?_ <;> intro hc_ <;> (try simp only [isNilI, inB, reduceCtorEq, cds] at hc_) <;> (try (first | contradiction | (exfalso; omega)))) | refine ar_until (And.intro ?_ (wk3 ?_)))
  all_goals (first | refine ar_id ?_ | (try (focus ((try refine nrmO ?_); (repeat' (first | exact True.intro | refine And.intro ?_ ?_)); all_goals (try (intro (hg_ : _ = true); (try simp only [isNilI, inB, reduceCtorEq, cds] at hg_); (repeat' (first | exact True.intro | refine And.intro ?_ ?_)))); all_goals (first | exact ob1 | skip)))))
  · exact bf fun h => by rw [h] at hc_; simp at hc_
  have hl : a.length = b.length := by omega
  refine ar_keep 51 (by dsimp only [keepS] <;> exact rfl) ?_
  refine ar_forM (a.length) (fun i => a.take i = b.take i) (fun i => [(5, (TV.sv (.one (.lit (.int .i64 (i))))))]) (fun i => []) ?_ ?_ ?_
  rotate_left
  · first | trivial | simp
  (dsimp only [rnCap, capSVs, Int.toNat_natCast, ro, Nat.reduceAdd, Nat.reduceMul, Nat.zero_add, List.map, putT, app, wrapG, gOb, argT, keys, slotOf, dropped, gAnd, wB, rnT, rnS, rnC, rnCs, rnSs, rnM, rnB, rnN, rn, lk, St.over, ded, delL, keepT, menT, menSs, menS, menCs, menC, hasN, resT, SV.cells]; refine wk3 ?_; (focus ((try refine nrmO ?_); (repeat' (first | exact True.intro | refine And.intro ?_ ?_)); all_goals (try (intro (hg_ : _ = true); (try simp only [isNilI, inB, reduceCtorEq, cds] at hg_); (repeat' (first | exact True.intro | refine And.intro ?_ ?_)))); all_goals (first | exact ob1 | exact rfl | skip))))
  rotate_right
  intro i hi_ hiI_
  dsimp only [rnCap, capSVs, Int.toNat_natCast, ro, Nat.reduceAdd, Nat.reduceMul, Nat.zero_add, List.map, putT, app, wrapG, gOb, argT, keys, slotOf, dropped, gAnd, wB, rnT, rnS, rnC, rnCs, rnSs, rnM, rnB, rnN, rn, lk, St.over, ded, delL, keepT, menT, menSs, menS, menCs, menC, hasN, resT, SV.cells]
  repeat' (refine ar_id ?_; first | refine st1 ?_ | (refine ar_drawS (id := 6) tt_ok (by kernel_rfl) [.elem (Tr.eI (a.getD i 0)), .elem (Tr.eI (b.getD i 0))] ?_; refine ed_hide ?_; intro K_ hK_; repeat' (first | ((first | refine ed_call3 ?_ | refine ed_sure3 ?_ | refine ed_cons3 ?_); refine ed_hide ?_; intro K_ hK_; (try refine nrmE ?_)) | (refine ed_nil ?_; (repeat subst hK_); dsimp only; refine Exists.intro _ (And.intro rfl (And.intro (by kernel_rfl) (And.intro ?_ ?_))); rotate_left; (try refine nrm ?_); rotate_right))) | (first | ((first | refine ar_region tt_ok (inps := []) rfl ?_ ?_); rotate_left; (try refine nrm ?_); rotate_right) | refine ret3 ?_ | refine end3 ?_) | (refine ar_cond rfl trivial ?_ ?_ <;> intro hc_ <;> (try simp only [isNilI, inB, reduceCtorEq, cds] at hc_) <;> (try (first | contradiction | (exfalso; omega)))) | refine ar_until (And.intro ?_ (wk3 ?_)))
  all_goals (first | refine ar_id ?_ | (try (focus ((try refine nrmO ?_); (repeat' (first | exact True.intro | refine And.intro ?_ ?_)); all_goals (try (intro (hg_ : _ = true); (try simp only [isNilI, inB, reduceCtorEq, cds] at hg_); (repeat' (first | exact True.intro | refine And.intro ?_ ?_)))); all_goals (first | exact ob1 | skip)))))
  · exact bf (take_ne 0 (by omega) (by omega) hc_)
  · exact take_eqs 0 hiI_ (by omega) (by omega) hc_
  · exact bt (take_all hiI_ (by omega) hl)
def c_sameB (a b : List Bool) : CFD := ⟨91, [.one (ro 4 1 Tr.eB a), .one (ro 4 1 Tr.eB b)], [], (TV.sv (.one (.lit (.bool (decide (a = b)))))), [], [], []⟩
theorem fn_sameB (a b : List Bool) (ha : a.length ≤ 1048576) : Fn Tryz.prog (c_sameB a b) := by
  refine fn_intro tt_ok Tryz.func91 rfl Tryz.call91 Tryz.ntmps91 Tryz.results91 rfl rfl rfl rfl ?_
  intro X ρ0 hb_ hgl_
  dsimp only [c_sameB]
  try refine nrm ?_
  repeat' (refine ar_id ?_; first | refine st1 ?_ | (first | ((first | refine ar_region tt_ok (inps := []) rfl ?_ ?_); rotate_left; (try refine nrm ?_); rotate_right) | refine ret3 ?_ | refine end3 ?_) | (refine ar_cond rfl trivial ?_ ?_ <;> intro hc_ <;> (try simp only [isNilI, inB, reduceCtorEq, cds] at hc_) <;> (try (first | contradiction | (exfalso; omega)))) | refine ar_until (And.intro ?_ (wk3 ?_)))
  all_goals (first | refine ar_id ?_ | (try (focus ((try refine nrmO ?_); (repeat' (first | exact True.intro | refine And.intro ?_ ?_)); all_goals (try (intro (hg_ : _ = true); (try simp only [isNilI, inB, reduceCtorEq, cds] at hg_); (repeat' (first | exact True.intro | refine And.intro ?_ ?_)))); all_goals (first | exact ob1 | skip)))))
  · exact bf fun h => by rw [h] at hc_; simp at hc_
  have hl : a.length = b.length := by omega
  refine ar_keep 51 (by dsimp only [keepS] <;> exact rfl) ?_
  refine ar_forM (a.length) (fun i => a.take i = b.take i) (fun i => [(5, (TV.sv (.one (.lit (.int .i64 (i))))))]) (fun i => []) ?_ ?_ ?_
  rotate_left
  · first | trivial | simp
  (dsimp only [rnCap, capSVs, Int.toNat_natCast, ro, Nat.reduceAdd, Nat.reduceMul, Nat.zero_add, List.map, putT, app, wrapG, gOb, argT, keys, slotOf, dropped, gAnd, wB, rnT, rnS, rnC, rnCs, rnSs, rnM, rnB, rnN, rn, lk, St.over, ded, delL, keepT, menT, menSs, menS, menCs, menC, hasN, resT, SV.cells]; refine wk3 ?_; (focus ((try refine nrmO ?_); (repeat' (first | exact True.intro | refine And.intro ?_ ?_)); all_goals (try (intro (hg_ : _ = true); (try simp only [isNilI, inB, reduceCtorEq, cds] at hg_); (repeat' (first | exact True.intro | refine And.intro ?_ ?_)))); all_goals (first | exact ob1 | exact rfl | skip))))
  rotate_right
  intro i hi_ hiI_
  dsimp only [rnCap, capSVs, Int.toNat_natCast, ro, Nat.reduceAdd, Nat.reduceMul, Nat.zero_add, List.map, putT, app, wrapG, gOb, argT, keys, slotOf, dropped, gAnd, wB, rnT, rnS, rnC, rnCs, rnSs, rnM, rnB, rnN, rn, lk, St.over, ded, delL, keepT, menT, menSs, menS, menCs, menC, hasN, resT, SV.cells]
  repeat' (refine ar_id ?_; first | refine st1 ?_ | (refine ar_drawS (id := 6) tt_ok (by kernel_rfl) [.elem (Tr.eB (a.getD i false)), .elem (Tr.eB (b.getD i false))] ?_; refine ed_hide ?_; intro K_ hK_; repeat' (first | ((first | refine ed_call3 ?_ | refine ed_sure3 ?_ | refine ed_cons3 ?_); refine ed_hide ?_; intro K_ hK_; (try refine nrmE ?_)) | (refine ed_nil ?_; (repeat subst hK_); dsimp only; refine Exists.intro _ (And.intro rfl (And.intro (by kernel_rfl) (And.intro ?_ ?_))); rotate_left; (try refine nrm ?_); rotate_right))) | (first | ((first | refine ar_region tt_ok (inps := []) rfl ?_ ?_); rotate_left; (try refine nrm ?_); rotate_right) | refine ret3 ?_ | refine end3 ?_) | (refine ar_cond rfl trivial ?_ ?_ <;> intro hc_ <;> (try simp only [isNilI, inB, reduceCtorEq, cds] at hc_) <;> (try (first | contradiction | (exfalso; omega)))) | refine ar_until (And.intro ?_ (wk3 ?_)))
  all_goals (first | refine ar_id ?_ | (try (focus ((try refine nrmO ?_); (repeat' (first | exact True.intro | refine And.intro ?_ ?_)); all_goals (try (intro (hg_ : _ = true); (try simp only [isNilI, inB, reduceCtorEq, cds] at hg_); (repeat' (first | exact True.intro | refine And.intro ?_ ?_)))); all_goals (first | exact ob1 | skip)))))
  all_goals first
    | exact bf (take_ne false (by omega) (by omega) hc_)
    | exact take_eqs false hiI_ (by omega) (by omega) hc_
    | exact bt (take_all hiI_ (by omega) hl)
instance decE : DecidableEq GEntry := fun a b => decidable_of_iff (a.Mode = b.Mode ∧ a.Frame = b.Frame) (by cases a; cases b; simp)
theorem ent_eq {a b : GEntry} : a = b ↔ a.Mode = b.Mode ∧ a.Frame = b.Frame ∧ True := by cases a; cases b; simp
def c_sameE (a b : List GEntry) : CFD := ⟨48, [.one (ro 45 2 eEntry a), .one (ro 45 2 eEntry b)], [], (TV.sv (.one (.lit (.bool (decide (a = b)))))), [], [], []⟩
theorem fn_sameE (a b : List GEntry) (ha : a.length ≤ 1048576) : Fn Tryz.prog (c_sameE a b) := by
  refine fn_intro tt_ok Tryz.func48 rfl Tryz.call48 Tryz.ntmps48 Tryz.results48 rfl rfl rfl rfl ?_
  intro X ρ0 hb_ hgl_
  dsimp only [c_sameE]
  try refine nrm ?_
  repeat' (refine ar_id ?_; first | refine st1 ?_ | (first | ((first | refine ar_region tt_ok (inps := []) rfl ?_ ?_); rotate_left; (try refine nrm ?_); rotate_right) | refine ret3 ?_ | refine end3 ?_) | (refine ar_cond rfl trivial ?_ ?_ <;> intro hc_ <;> (try simp only [isNilI, inB, reduceCtorEq, cds] at hc_) <;> (try (first | contradiction | (exfalso; omega)))) | refine ar_until (And.intro ?_ (wk3 ?_)))
  all_goals (first | refine ar_id ?_ | (try (focus ((try refine nrmO ?_); (repeat' (first | exact True.intro | refine And.intro ?_ ?_)); all_goals (try (intro (hg_ : _ = true); (try simp only [isNilI, inB, reduceCtorEq, cds] at hg_); (repeat' (first | exact True.intro | refine And.intro ?_ ?_)))); all_goals (first | exact ob1 | skip)))))
  · exact bf fun h => by rw [h] at hc_; simp at hc_
  have hl : a.length = b.length := by omega
  refine ar_keep 51 (by dsimp only [keepS] <;> exact rfl) ?_
  refine ar_forM (a.length) (fun i => a.take i = b.take i) (fun i => [(5, (TV.sv (.one (.lit (.int .i64 (i))))))]) (fun i => []) ?_ ?_ ?_
  rotate_left
  · first | trivial | simp
  (dsimp only [rnCap, capSVs, Int.toNat_natCast, ro, Nat.reduceAdd, Nat.reduceMul, Nat.zero_add, List.map, putT, app, wrapG, gOb, argT, keys, slotOf, dropped, gAnd, wB, rnT, rnS, rnC, rnCs, rnSs, rnM, rnB, rnN, rn, lk, St.over, ded, delL, keepT, menT, menSs, menS, menCs, menC, hasN, resT, SV.cells]; refine wk3 ?_; (focus ((try refine nrmO ?_); (repeat' (first | exact True.intro | refine And.intro ?_ ?_)); all_goals (try (intro (hg_ : _ = true); (try simp only [isNilI, inB, reduceCtorEq, cds] at hg_); (repeat' (first | exact True.intro | refine And.intro ?_ ?_)))); all_goals (first | exact ob1 | exact rfl | skip))))
  rotate_right
  intro i hi_ hiI_
  dsimp only [rnCap, capSVs, Int.toNat_natCast, ro, Nat.reduceAdd, Nat.reduceMul, Nat.zero_add, List.map, putT, app, wrapG, gOb, argT, keys, slotOf, dropped, gAnd, wB, rnT, rnS, rnC, rnCs, rnSs, rnM, rnB, rnN, rn, lk, St.over, ded, delL, keepT, menT, menSs, menS, menCs, menC, hasN, resT, SV.cells]
  repeat' (refine ar_id ?_; first | refine st1 ?_ | (refine ar_drawS (id := 6) tt_ok (by kernel_rfl) [.elem (eEntry (a.getD i ⟨0, 0⟩)), .elem (eEntry (b.getD i ⟨0, 0⟩))] ?_; refine ed_hide ?_; intro K_ hK_; repeat' (first | ((first | refine ed_call3 ?_ | refine ed_sure3 ?_ | refine ed_cons3 ?_); refine ed_hide ?_; intro K_ hK_; (try refine nrmE ?_)) | (refine ed_nil ?_; (repeat subst hK_); dsimp only; refine Exists.intro _ (And.intro rfl (And.intro (by kernel_rfl) (And.intro ?_ ?_))); rotate_left; (try refine nrm ?_); rotate_right))) | (first | ((first | refine ar_region tt_ok (inps := []) rfl ?_ ?_); rotate_left; (try refine nrm ?_); rotate_right) | refine ret3 ?_ | refine end3 ?_) | (refine ar_cond rfl trivial ?_ ?_ <;> intro hc_ <;> (try simp only [isNilI, inB, reduceCtorEq, cds] at hc_) <;> (try (first | contradiction | (exfalso; omega)))) | refine ar_until (And.intro ?_ (wk3 ?_)))
  all_goals (first | refine ar_id ?_ | (try (focus ((try refine nrmO ?_); (repeat' (first | exact True.intro | refine And.intro ?_ ?_)); all_goals (try (intro (hg_ : _ = true); (try simp only [isNilI, inB, reduceCtorEq, cds] at hg_); (repeat' (first | exact True.intro | refine And.intro ?_ ?_)))); all_goals (first | exact ob1 | skip)))))
  · exact bf (take_ne (⟨0, 0⟩ : GEntry) (a := a) (b := b) (i := i) (by omega) (by omega) (fun h => by rw [h] at hc_; simp at hc_))
  · exact take_eqs (⟨0, 0⟩ : GEntry) hiI_ (by omega) (by omega) (ent_eq.2 hc_)
  · exact bt (take_all hiI_ (by omega) hl)
def c_sameL (a b : List (List Int)) : CFD := ⟨90, [.one (ro 33 1 eIntS a), .one (ro 33 1 eIntS b)], [], (TV.sv (.one (.lit (.bool (decide (a = b)))))), [], [], []⟩
theorem fn_sameL (a b : List (List Int)) (ha : a.length ≤ 1048576) (hr : ∀ r ∈ a, r.length ≤ 1048576) : Fn Tryz.prog (c_sameL a b) := by
  refine fn_intro tt_ok Tryz.func90 rfl Tryz.call90 Tryz.ntmps90 Tryz.results90 rfl rfl rfl rfl ?_
  intro X ρ0 hb_ hgl_
  dsimp only [c_sameL]
  try refine nrm ?_
  repeat' (refine ar_id ?_; first | refine st1 ?_ | (first | ((first | refine ar_region tt_ok (inps := []) rfl ?_ ?_); rotate_left; (try refine nrm ?_); rotate_right) | refine ret3 ?_ | refine end3 ?_) | (refine ar_cond rfl trivial ?_ ?_ <;> intro hc_ <;> (try simp only [isNilI, inB, reduceCtorEq, cds] at hc_) <;> (try (first | contradiction | (exfalso; omega)))) | refine ar_until (And.intro ?_ (wk3 ?_)))
  all_goals (first | refine ar_id ?_ | (try (focus ((try refine nrmO ?_); (repeat' (first | exact True.intro | refine And.intro ?_ ?_)); all_goals (try (intro (hg_ : _ = true); (try simp only [isNilI, inB, reduceCtorEq, cds] at hg_); (repeat' (first | exact True.intro | refine And.intro ?_ ?_)))); all_goals (first | exact ob1 | skip)))))
  · exact bf fun h => by rw [h] at hc_; simp at hc_
  have hl : a.length = b.length := by omega
  refine ar_keep 51 (by dsimp only [keepS] <;> exact rfl) ?_
  refine ar_forM (a.length) (fun i => a.take i = b.take i) (fun i => [(5, (TV.sv (.one (.lit (.int .i64 (i))))))]) (fun i => []) ?_ ?_ ?_
  rotate_left
  · first | trivial | simp
  (dsimp only [rnCap, capSVs, Int.toNat_natCast, ro, Nat.reduceAdd, Nat.reduceMul, Nat.zero_add, List.map, putT, app, wrapG, gOb, argT, keys, slotOf, dropped, gAnd, wB, rnT, rnS, rnC, rnCs, rnSs, rnM, rnB, rnN, rn, lk, St.over, ded, delL, keepT, menT, menSs, menS, menCs, menC, hasN, resT, SV.cells]; refine wk3 ?_; (focus ((try refine nrmO ?_); (repeat' (first | exact True.intro | refine And.intro ?_ ?_)); all_goals (try (intro (hg_ : _ = true); (try simp only [isNilI, inB, reduceCtorEq, cds] at hg_); (repeat' (first | exact True.intro | refine And.intro ?_ ?_)))); all_goals (first | exact ob1 | exact rfl | skip))))
  rotate_right
  intro i hi_ hiI_
  dsimp only [rnCap, capSVs, Int.toNat_natCast, ro, Nat.reduceAdd, Nat.reduceMul, Nat.zero_add, List.map, putT, app, wrapG, gOb, argT, keys, slotOf, dropped, gAnd, wB, rnT, rnS, rnC, rnCs, rnSs, rnM, rnB, rnN, rn, lk, St.over, ded, delL, keepT, menT, menSs, menS, menCs, menC, hasN, resT, SV.cells]
  repeat' (refine ar_id ?_; first | refine st1 ?_ | (refine ar_drawS (id := 6) tt_ok (by kernel_rfl) [.elem (eIntS (a.getD i [])), .elem (eIntS (b.getD i [])), .call (c_sameI (a.getD i []) (b.getD i []))] ?_; refine ed_hide ?_; intro K_ hK_; repeat' (first | ((first | refine ed_call3 ?_ | refine ed_sure3 ?_ | refine ed_cons3 ?_); refine ed_hide ?_; intro K_ hK_; (try dsimp only [c_sameI]); (try refine nrmE ?_)) | (refine ed_nil ?_; (repeat subst hK_); dsimp only; refine Exists.intro _ (And.intro rfl (And.intro (by kernel_rfl) (And.intro ?_ ?_))); rotate_left; (try dsimp only [c_sameI]); (try refine nrm ?_); rotate_right))) | (first | ((first | refine ar_region tt_ok (inps := []) rfl ?_ ?_); rotate_left; (try dsimp only [c_sameI]); (try refine nrm ?_); rotate_right) | refine ret3 ?_ | refine end3 ?_) | (refine ar_cond rfl trivial ?_ ?_ <;> intro hc_ <;> (try simp only [isNilI, inB, reduceCtorEq, cds] at hc_) <;> (try (first | contradiction | (exfalso; omega)))) | refine ar_until (And.intro ?_ (wk3 ?_)))
  all_goals (first | refine ar_id ?_ | (try (focus ((try refine nrmO ?_); (repeat' (first | exact True.intro | refine And.intro ?_ ?_)); all_goals (try (intro (hg_ : _ = true); (try simp only [isNilI, inB, reduceCtorEq, cds] at hg_); (repeat' (first | exact True.intro | refine And.intro ?_ ?_)))); all_goals (first | exact ob1 | exact fn_sameI _ _ (hr _ (getD_in (by omega))) | skip)))))
  all_goals first
    | exact bf (take_ne [] (by omega) (by omega) hc_)
    | exact take_eqs [] hiI_ (by omega) (by omega) hc_
    | exact bt (take_all hiI_ (by omega) hl)
def c_sameF (a b : GFrames) : CFD := ⟨47, [.agg [ro 33 1 eIntS a.Cells, ro 4 1 Tr.eB a.Used], .agg [ro 33 1 eIntS b.Cells, ro 4 1 Tr.eB b.Used]], [], (TV.sv (.one (.lit (.bool (decide (a.Cells = b.Cells) && decide (a.Used = b.Used)))))), [], [], []⟩
theorem fn_sameF (a b : GFrames) (h1 : a.Cells.length ≤ 1048576) (h2 : a.Used.length ≤ 1048576) (hr : ∀ r ∈ a.Cells, r.length ≤ 1048576) : Fn Tryz.prog (c_sameF a b) := by
  refine fn_intro tt_ok Tryz.func47 rfl Tryz.call47 Tryz.ntmps47 Tryz.results47 rfl rfl rfl rfl ?_
  intro X ρ0 hb_ hgl_
  dsimp only [c_sameF]
  try refine nrm ?_
  repeat' (refine ar_id ?_; first | refine st1 ?_ | (first | ((first | refine ar_region (id := 1) tt_ok (inps := [.call (c_sameL a.Cells b.Cells), .call (c_sameB a.Used b.Used)]) rfl ?_ ?_ | refine ar_region tt_ok (inps := []) rfl ?_ ?_); rotate_left; (try dsimp only [c_sameB, c_sameL]); (try refine nrm ?_); rotate_right) | refine ret3 ?_ | refine end3 ?_) | (refine ar_cond rfl trivial ?_ ?_ <;> intro hc_ <;> (try simp only [isNilI, inB, reduceCtorEq, cds] at hc_) <;> (try (first | contradiction | (exfalso; omega)))) | refine ar_until (And.intro ?_ (wk3 ?_)))
  all_goals (first | refine ar_id ?_ | (try (focus ((try refine nrmO ?_); (repeat' (first | exact True.intro | refine And.intro ?_ ?_)); all_goals (try (intro (hg_ : _ = true); (try simp only [isNilI, inB, reduceCtorEq, cds] at hg_); (repeat' (first | exact True.intro | refine And.intro ?_ ?_)))); all_goals (first | exact ob1 | exact fn_sameL _ _ h1 hr | exact fn_sameB _ _ h2 | skip)))))
  rw [Bool.cond_false_right]
def c_sameM (a b : GMachine) : CFD := ⟨13, [.agg [ro 33 1 eIntS a.Frames.Cells, ro 4 1 Tr.eB a.Frames.Used, ro 45 2 eEntry a.Table.Entries], .agg [ro 33 1 eIntS b.Frames.Cells, ro 4 1 Tr.eB b.Frames.Used, ro 45 2 eEntry b.Table.Entries]], [], (TV.sv (.one (.lit (.bool ((decide (a.Frames.Cells = b.Frames.Cells) && decide (a.Frames.Used = b.Frames.Used)) && decide (a.Table.Entries = b.Table.Entries)))))), [], [], []⟩
theorem fn_sameM (a b : GMachine) (h1 : a.Frames.Cells.length ≤ 1048576) (h2 : a.Frames.Used.length ≤ 1048576) (h3 : a.Table.Entries.length ≤ 1048576) (hr : ∀ r ∈ a.Frames.Cells, r.length ≤ 1048576) : Fn Tryz.prog (c_sameM a b) := by
  refine fn_intro tt_ok Tryz.func13 rfl Tryz.call13 Tryz.ntmps13 Tryz.results13 rfl rfl rfl rfl ?_
  intro X ρ0 hb_ hgl_
  dsimp only [c_sameM]
  try refine nrm ?_
  repeat' (refine ar_id ?_; first | refine st1 ?_ | (first | ((first | refine ar_region (id := 1) tt_ok (inps := [.call (c_sameF a.Frames b.Frames), .call (c_sameE a.Table.Entries b.Table.Entries)]) rfl ?_ ?_ | refine ar_region tt_ok (inps := []) rfl ?_ ?_); rotate_left; (try dsimp only [c_sameE, c_sameF]); (try refine nrm ?_); rotate_right) | refine ret3 ?_ | refine end3 ?_) | (refine ar_cond rfl trivial ?_ ?_ <;> intro hc_ <;> (try simp only [isNilI, inB, reduceCtorEq, cds] at hc_) <;> (try (first | contradiction | (exfalso; omega)))) | refine ar_until (And.intro ?_ (wk3 ?_)))
  all_goals (first | refine ar_id ?_ | (try (focus ((try refine nrmO ?_); (repeat' (first | exact True.intro | refine And.intro ?_ ?_)); all_goals (try (intro (hg_ : _ = true); (try simp only [isNilI, inB, reduceCtorEq, cds] at hg_); (repeat' (first | exact True.intro | refine And.intro ?_ ?_)))); all_goals (first | exact ob1 | exact fn_sameF _ _ h1 h2 hr | exact fn_sameE _ _ h3 | skip)))))
  rw [Bool.cond_false_right]
theorem sameM_refl (a : GMachine) : ((decide (a.Frames.Cells = a.Frames.Cells) && decide (a.Frames.Used = a.Frames.Used)) && decide (a.Table.Entries = a.Table.Entries)) = true := by simp
end Eng
end Go.Proofs.YtlkkiopjknbomaaGreatDoor
namespace Go.Proofs.YtlkkiopjknbomaaGreatDoor
open Go.RowKit
set_option linter.unusedVariables false
set_option linter.unusedSimpArgs false
set_option maxRecDepth 100000
namespace Eng
open Tr
theorem okM_store {m : GMachine} (h : okM m) (addr v : Int) : okM (pStore m addr v).1 := by
  unfold pStore
  split
  · rename_i hC
    split
    · exact h
    · split
      · rename_i h1 hv
        obtain ⟨ha, f, k, r, hf, hk, k1, k2, k3, k4, k5⟩ := load_at hC
        have hm := hC.2
        have hf' := hf
        unfold pEntry at hm hf'
        rw [if_neg (by omega)] at hm hf'
        have hu : m.Frames.Used[f]? = some true := okM_used h hm hf' k3
        obtain ⟨h1, h2, h3⟩ := h
        unfold setCellOf
        rw [hf, hk, Int.toNat_natCast, Int.toNat_natCast, getD_row k4]
        have hr := h1.2.2 _ (List.mem_of_getElem? (zip_at k4 hu))
        refine ⟨okF_row h1 hu ⟨by rw [List.length_set]; exact hr.1, fun x hx => ?_⟩, ?_, h3⟩
        · rcases List.mem_or_eq_of_mem_set hx with hx | hx
          · exact hr.2 x hx
          · rw [hx]; exact ⟨hv, .inl rfl⟩
        · show pTableOk m.Table (((m.Frames.Cells.set f _).length : Nat) : Int) = true
          rw [List.length_set]
          exact h2
      · exact h
  · exact h
theorem store_form (m : GMachine) (addr v : Int) : (pStore m addr v).1 = m ∨ (pStore m addr v).1 = setCellOf m (pEntry m addr).1.Frame (pEntry m addr).2 v := by
  unfold pStore
  split
  · split
    · exact .inl rfl
    · split
      · exact .inr rfl
      · exact .inl rfl
  · exact .inl rfl
theorem ptS_okM {bs : List Int} {p : GPlan} {s : GMachine × Cu} (h : okM s.1) : ∀ i, okM (ptS bs p s i).1
  | 0 => h
  | i + 1 => by
    have ih := ptS_okM h (bs := bs) (p := p) i
    show okM (putS bs p (ptS bs p s i) i).1
    unfold putS
    split
    · split
      · exact ih
      · exact okM_store ih _ _
    · exact ih
theorem cells_nat {p : GPlan} (h : plOk p) {c : Int} (hc : c ∈ p.Cells) : 0 ≤ c := by
  obtain ⟨i, hi, rfl⟩ := List.mem_iff_getElem.1 hc
  have := asc_at h.2.2.2 hi
  rw [List.getD_eq_getElem?_getD, List.getElem?_eq_getElem hi] at this
  exact this.1
/-- behind the stores: the table as0 it was, the kept page empty where the plan has cells -/
theorem ptS_rows {bs : List Int} {p : GPlan} {s : GMachine × Cu} {f g : Nat} (hp : plOk p) (hne : f ≠ g) (hK : pPageEntry s.1.Table p.Keep = ⟨2, (f : Int)⟩) (hM : pPageEntry s.1.Table p.Move = ⟨2, (g : Int)⟩)
    (hz : ∃ rf rg, s.1.Frames.Cells[f]? = some rf ∧ s.1.Frames.Cells[g]? = some rg ∧ ∀ c ∈ p.Cells, rf.getD c.toNat 0 = 0) : ∀ i, i ≤ 16 →
      (ptS bs p s i).1.Table = s.1.Table ∧ ∃ rf rg, (ptS bs p s i).1.Frames.Cells[f]? = some rf ∧ (ptS bs p s i).1.Frames.Cells[g]? = some rg ∧ ∀ c ∈ p.Cells, rf.getD c.toNat 0 = 0
  | 0, _ => ⟨rfl, hz⟩
  | i + 1, hi => by
    obtain ⟨ih1, rf, rg, ih2, ih3, ih4⟩ := ptS_rows (bs := bs) hp hne hK hM hz i (by omega)
    show (putS bs p (ptS bs p s i) i).1.Table = _ ∧ ∃ rf rg, (putS bs p (ptS bs p s i) i).1.Frames.Cells[f]? = some rf ∧ (putS bs p (ptS bs p s i) i).1.Frames.Cells[g]? = some rg ∧ _
    unfold putS
    split
    · split
      · exact ⟨ih1, rf, rg, ih2, ih3, ih4⟩
      · generalize (ptS bs p s i).1 = m at *
        generalize hv : 1 + (dBelow bs (dBelow bs (ptS bs p s i).2 3).2 999).1 = v
        dsimp only
        have hpg : 0 ≤ pgS p i := by unfold pgS; have := hp.2.1; have := hp.2.2.1; split <;> omega
        have hen : pEntry m (pgS p i * 16 + (i : Int)) = (pPageEntry m.Table (pgS p i), (i : Int)) := by
          unfold pEntry
          rw [if_neg (by omega), show (pgS p i * 16 + (i : Int)) / 16 = pgS p i by omega, show (pgS p i * 16 + (i : Int)) % 16 = (i : Int) by omega]
        rcases store_form m (pgS p i * 16 + (i : Int)) v with h | h
        · rw [h]; exact ⟨ih1, rf, rg, ih2, ih3, ih4⟩
        · rw [h, hen]
          dsimp only
          rw [ih1]
          unfold pgS setCellOf
          by_cases hx : (i : Int) ∈ p.Cells
          · rw [if_pos hx, hM]
            dsimp only
            rw [Int.toNat_natCast, Int.toNat_natCast]
            refine ⟨ih1, rf, _, ?_, List.getElem?_set_self (List.getElem?_eq_some_iff.1 ih3).1, ih4⟩
            rw [List.getElem?_set_ne (Ne.symm hne)]
            exact ih2
          · rw [if_neg hx, hK]
            dsimp only
            rw [Int.toNat_natCast, Int.toNat_natCast]
            refine ⟨ih1, _, rg, List.getElem?_set_self (List.getElem?_eq_some_iff.1 ih2).1, ?_, fun c hc => ?_⟩
            · rw [List.getElem?_set_ne hne]
              exact ih3
            · have h0 := ih4 c hc
              have hc0 := cells_nat hp hc
              rw [getD_row ih2, List.getD_eq_getElem?_getD, List.getElem?_set_ne (by rintro rfl; exact hx (by rwa [Int.toNat_of_nonneg hc0])), ← List.getD_eq_getElem?_getD]
              exact h0
    · exact ⟨ih1, rf, rg, ih2, ih3, ih4⟩
/-- the machine with one more page -/
def nwM (m : GMachine) (page : Int) : GMachine := setEntry ⟨⟨m.Frames.Cells, m.Frames.Used.set (pFree m.Frames).toNat true⟩, m.Table⟩ page.toNat ⟨2, pFree m.Frames⟩
theorem new_machine (k : GKernel) (page : Int) : (pNew k page).1.Machine = nwM k.Machine page ∨ (pNew k page).1.Machine = k.Machine := by
  unfold pNew
  split
  · exact .inl rfl
  · exact .inr rfl
theorem two44 : ∀ a b : _root_.Fin 4, a ≠ b → (pPageEntry (pMachineNew 4 4).1.Table ((b.val : Nat) : Int)).Mode = 0 ∧ (pPageEntry (nwM (pMachineNew 4 4).1 ((a.val : Nat) : Int)).Table ((b.val : Nat) : Int)).Mode = 0 ∧
    (nwM (nwM (pMachineNew 4 4).1 ((a.val : Nat) : Int)) ((b.val : Nat) : Int)).Table.Entries[a.val]? = some ⟨2, 0⟩ ∧ (nwM (nwM (pMachineNew 4 4).1 ((a.val : Nat) : Int)) ((b.val : Nat) : Int)).Table.Entries[b.val]? = some ⟨2, 1⟩ ∧
    (nwM (nwM (pMachineNew 4 4).1 ((a.val : Nat) : Int)) ((b.val : Nat) : Int)).Table.Entries.length = 4 ∧
    (∀ j : _root_.Fin 4, j ≠ b → ((nwM (nwM (pMachineNew 4 4).1 ((a.val : Nat) : Int)) ((b.val : Nat) : Int)).Table.Entries.getD j.val ⟨0, 0⟩).Mode = 0 ∨ ((nwM (nwM (pMachineNew 4 4).1 ((a.val : Nat) : Int)) ((b.val : Nat) : Int)).Table.Entries.getD j.val ⟨0, 0⟩).Frame = 0) ∧
    (nwM (nwM (pMachineNew 4 4).1 ((a.val : Nat) : Int)) ((b.val : Nat) : Int)).Frames.Cells[0]? = some (List.replicate 16 0) ∧ (nwM (nwM (pMachineNew 4 4).1 ((a.val : Nat) : Int)) ((b.val : Nat) : Int)).Frames.Cells[1]? = some (List.replicate 16 0) := by decide +kernel
/-- the pair's kernel, ahead of the stores -/
theorem pK2_facts {r : List Int} {p : GPlan} (h0 : ∀ x ∈ r, 0 ≤ x) (hl : r.length ≤ 40) : okK (pK2 r p) ∧ (pK2 r p).Calls = 2 ∧ sameSz (pMachineNew 4 4).1 (pK2 r p).Machine ∧ (pK2 r p).Refuse = r := by
  have hkn : pKernelNew 4 4 r = (⟨(pMachineNew 4 4).1, 0, r⟩, true) := if_pos ⟨by decide, m44.1, ⟨Int.le_refl _, (by show (0 : Int) ≤ 100000; decide)⟩, h0, by show r.length ≤ 40; omega⟩
  have hk0 : okK ⟨(pMachineNew 4 4).1, 0, r⟩ := ⟨m44.1, ⟨Int.le_refl _, (by show (0 : Int) ≤ 100000; decide)⟩, h0, by show r.length ≤ 40; omega⟩
  unfold pK2 pK0
  rw [hkn]
  dsimp only
  have z1 := sz_new ⟨(pMachineNew 4 4).1, 0, r⟩ p.Keep
  have l1 := (law_new (k := ⟨(pMachineNew 4 4).1, 0, r⟩) ⟨hk0, (by show (0 : Int) < 100000; decide)⟩ p.Keep).1
  unfold pKMapNew at l1
  rw [if_pos ⟨hk0, (by show (0 : Int) < 100000; decide)⟩] at l1
  generalize (pNew ⟨(pMachineNew 4 4).1, 0, r⟩ p.Keep).1 = k1 at *
  obtain ⟨z1, z2, z3⟩ := z1
  have z3' : k1.Calls = 1 := z3
  have hc1 : canCall k1 := ⟨l1, by omega⟩
  have y1 := sz_new k1 p.Move
  have l2 := (law_new hc1 p.Move).1
  unfold pKMapNew at l2
  rw [if_pos hc1] at l2
  generalize (pNew k1 p.Move).1 = k2 at *
  obtain ⟨y1, y2, y3⟩ := y1
  exact ⟨l2, by omega, z1.trans y1, y2.trans z2⟩
theorem pK2_mapped {r : List Int} {p : GPlan} (h0 : ∀ x ∈ r, 0 ≤ x) (hl : r.length ≤ 40) (hp : plOk p) (hk4 : p.Keep < 4) (hm4 : p.Move < 4)
    (hK : (pPageEntry (pK2 r p).Machine.Table p.Keep).Mode ≠ 0) (hM : (pPageEntry (pK2 r p).Machine.Table p.Move).Mode ≠ 0) : (pK2 r p).Machine = nwM (nwM (pMachineNew 4 4).1 p.Keep) p.Move := by
  have hkn : pKernelNew 4 4 r = (⟨(pMachineNew 4 4).1, 0, r⟩, true) := if_pos ⟨by decide, m44.1, ⟨Int.le_refl _, (by show (0 : Int) ≤ 100000; decide)⟩, h0, by show r.length ≤ 40; omega⟩
  have hkp := hp.2.1
  have hmp := hp.2.2.1
  have hne := hp.1
  have t1 := two44 ⟨p.Keep.toNat, by omega⟩ ⟨p.Move.toNat, by omega⟩ (by intro h; have := congrArg _root_.Fin.val h; dsimp only at this; omega)
  have t2 := two44 ⟨p.Move.toNat, by omega⟩ ⟨p.Keep.toNat, by omega⟩ (by intro h; have := congrArg _root_.Fin.val h; dsimp only at this; omega)
  dsimp only at t1 t2
  rw [show ((p.Keep.toNat : Nat) : Int) = p.Keep by omega, show ((p.Move.toNat : Nat) : Int) = p.Move by omega] at t1 t2
  have hE : (pK2 r p) = (pNew (pNew ⟨(pMachineNew 4 4).1, 0, r⟩ p.Keep).1 p.Move).1 := by unfold pK2 pK0; rw [hkn]
  rw [hE] at hK hM ⊢
  have n1 := new_machine ⟨(pMachineNew 4 4).1, 0, r⟩ p.Keep
  generalize (pNew ⟨(pMachineNew 4 4).1, 0, r⟩ p.Keep).1 = k1 at *
  dsimp only at n1
  rcases new_machine k1 p.Move with n2 | n2 <;> rw [n2] at hK hM ⊢ <;> rcases n1 with n1 | n1 <;> rw [n1] at hK hM ⊢
  · exact absurd t2.2.1 hK
  · exact absurd t1.2.1 hM
  · exact absurd t1.1 hM
theorem dPair_facts {bs : List Int} {c : Cu} (hc : okCu bs c) : okK (dPair bs c).1.1 ∧ (dPair bs c).1.1.Calls = 2 ∧ plOk (dPair bs c).1.2 ∧ okCu bs (dPair bs c).2 ∧ szK8 (dPair bs c).1.1 := by
  obtain ⟨f, hf⟩ : ∃ f, dRef bs c = f := ⟨_, rfl⟩
  have hrf := rGo_facts bs 4 0 ([], c) hc (fun x hx => nomatch hx)
  rw [show rGo bs 4 0 ([], c) = f from hf] at hrf
  obtain ⟨of, f0, fl⟩ := hrf
  have fl4 : f.1.length ≤ 4 := Nat.le_trans fl (by simp)
  obtain ⟨q, hq⟩ : ∃ q, dPlan bs f.2 = q := ⟨_, rfl⟩
  have hpq := dPlan_ok of
  rw [hq] at hpq
  obtain ⟨oq, hp, hk4, hm4⟩ := hpq
  unfold dPair
  rw [hf, hq]
  dsimp only
  obtain ⟨g1, g2, g3, g4⟩ := pK2_facts (r := f.1) (p := q.1) f0 (by omega)
  have hT := ptS_facts (bs := bs) (p := q.1) (s := ((pK2 f.1 q.1).Machine, q.2)) oq 16
  refine ⟨⟨ptS_okM (s := ((pK2 f.1 q.1).Machine, q.2)) g1.1 16, g1.2⟩, g2, hp, hT.1, szK8_same (k := ⟨(pMachineNew 4 4).1, 0, f.1⟩) ⟨m44.2, by show f.1.length ≤ _; omega⟩ (g3.trans hT.2) g4⟩
theorem dPair_pr {bs : List Int} {c : Cu} (hc : okCu bs c) {k : GKernel} {p : GPlan} (hk : (dPair bs c).1.1 = k) (hpp : (dPair bs c).1.2 = p) (hK : (pPageEntry k.Machine.Table p.Keep).Mode ≠ 0) (hM : (pPageEntry k.Machine.Table p.Move).Mode ≠ 0) : ∃ K M f g rf rg, Pr k p K M f g rf rg := by
  obtain ⟨g1, g2, g3, g4, g5⟩ := dPair_facts hc
  rw [hk] at g1 g2
  rw [hpp] at g3
  obtain ⟨f, hf⟩ : ∃ f, dRef bs c = f := ⟨_, rfl⟩
  have hrf := rGo_facts bs 4 0 ([], c) hc (fun x hx => nomatch hx)
  rw [show rGo bs 4 0 ([], c) = f from hf] at hrf
  obtain ⟨of, f0, fl⟩ := hrf
  have fl4 : f.1.length ≤ 4 := Nat.le_trans fl (by simp)
  have hpq := dPlan_ok of
  unfold dPair at hk hpp
  rw [hf] at hk hpp
  dsimp only at hk hpp
  rw [hpp] at hk hpq
  obtain ⟨oq, hp, hk4, hm4⟩ := hpq
  have hkp := hp.2.1
  have hmp := hp.2.2.1
  have hne := hp.1
  subst hk
  dsimp only at hK hM
  have hfix : ∀ i, (ptS bs p ((pK2 f.1 p).Machine, (dPlan bs f.2).2) i).1.Table = (pK2 f.1 p).Machine.Table := by
    intro i
    induction i with
    | zero => rfl
    | succ i ih =>
      show (putS bs p _ i).1.Table = _
      unfold putS
      split
      · split
        · exact ih
        · dsimp only
          rcases store_form (ptS bs p ((pK2 f.1 p).Machine, (dPlan bs f.2).2) i).1 (pgS p i * 16 + (i : Int)) (1 + (dBelow bs (dBelow bs (ptS bs p ((pK2 f.1 p).Machine, (dPlan bs f.2).2) i).2 3).2 999).1) with h | h
          · rw [h]; exact ih
          · rw [h]; exact ih
      · exact ih
  rw [hfix] at hK hM
  have hE := pK2_mapped f0 (by omega) hp hk4 hm4 hK hM
  have t1 := two44 ⟨p.Keep.toNat, by omega⟩ ⟨p.Move.toNat, by omega⟩ (by intro h; have := congrArg _root_.Fin.val h; dsimp only at this; omega)
  dsimp only at t1
  rw [show ((p.Keep.toNat : Nat) : Int) = p.Keep by omega, show ((p.Move.toNat : Nat) : Int) = p.Move by omega, ← hE] at t1
  obtain ⟨_, _, t3, t4, t5, t6, t7, t8⟩ := t1
  have eK : pPageEntry (pK2 f.1 p).Machine.Table p.Keep = ⟨2, ((0 : Nat) : Int)⟩ := by
    have := entry_of t3
    rwa [show ((p.Keep.toNat : Nat) : Int) = p.Keep by omega] at this
  have eM : pPageEntry (pK2 f.1 p).Machine.Table p.Move = ⟨2, ((1 : Nat) : Int)⟩ := by
    have := entry_of t4
    rwa [show ((p.Move.toNat : Nat) : Int) = p.Move by omega] at this
  have hz0 : ∀ c ∈ p.Cells, (List.replicate 16 (0 : Int)).getD c.toNat 0 = 0 := fun c _ => by
    rw [List.getD_eq_getElem?_getD, List.getElem?_replicate]
    split <;> rfl
  obtain ⟨_, rf, rg, s2, s3, s4⟩ := ptS_rows (bs := bs) (p := p) (s := ((pK2 f.1 p).Machine, (dPlan bs f.2).2)) (f := 0) (g := 1) hp (by decide) eK eM ⟨_, _, t7, t8, hz0⟩ 16 (Nat.le_refl _)
  refine ⟨p.Keep.toNat, p.Move.toNat, 0, 1, rf, rg, ⟨g1, hp, by omega, by omega, ?_, ?_, by decide, s2, s3, ?_, s4, by rw [g2]; decide⟩⟩
  · dsimp only; rw [hfix]; exact t3
  · dsimp only; rw [hfix]; exact t4
  · intro j e h1 h2 h3
    dsimp only at h1
    rw [hfix] at h1
    have hj : j < 4 := by have := (List.getElem?_eq_some_iff.1 h1).1; omega
    by_cases hjM : j = p.Move.toNat
    · exact hjM
    · exfalso
      have := t6 ⟨j, hj⟩ (by intro h; exact hjM (congrArg _root_.Fin.val h))
      dsimp only at this
      rw [List.getD_eq_getElem?_getD, h1] at this
      rcases this with h | h
      · exact h2 h
      · have h' : e.Frame = 0 := h
        have h3' : e.Frame = 1 := h3
        omega
end Eng
end Go.Proofs.YtlkkiopjknbomaaGreatDoor
namespace Go.Proofs.YtlkkiopjknbomaaGreatDoor
open Go.RowKit
set_option linter.unusedVariables false
set_option linter.unusedSimpArgs false
set_option maxRecDepth 100000
namespace Eng
open Tr
def c_CloneB (l : List Bool) : CFD := ⟨162, [.one (ro 4 1 Tr.eB l)], [], .sv (.one (.hd 0)), [(0, some (.row 4 1 (l.map Tr.eB)))], [0], []⟩
theorem fn_CloneB (l : List Bool) (hl : l.length ≤ 1048576) : Fn Tryz.prog (c_CloneB l) := by
  refine fn_intro tt_ok Tryz.func162 rfl Tryz.call162 Tryz.ntmps162 Tryz.results162 rfl rfl rfl rfl ?_
  intro X ρ0 hb_ hgl_
  dsimp only [c_CloneB]
  try refine nrm ?_
  repeat' (refine ar_id ?_; first | refine st1 ?_ | (first | ((first | refine ar_region tt_ok (inps := []) rfl ?_ ?_); rotate_left; (try refine nrm ?_); rotate_right) | refine ret3 ?_ | refine end3 ?_) | (refine ar_cond rfl trivial ?_ ?_ <;> intro hc_ <;> (try simp only [isNilI, inB, reduceCtorEq, cds] at hc_) <;> (try (first | contradiction | (exfalso; omega)))) | refine ar_until (And.intro ?_ (wk3 ?_)))
  all_goals (first | refine ar_id ?_ | (try (focus ((try refine nrmO ?_); (repeat' (first | exact True.intro | refine And.intro ?_ ?_)); all_goals (try (intro (hg_ : _ = true); (try simp only [isNilI, inB, reduceCtorEq, cds] at hg_); (repeat' (first | exact True.intro | refine And.intro ?_ ?_)))); all_goals (first | exact ob1 | skip)))))
  refine ar_split (s := 0) rfl ?_ ?_
  · intro hn hc
    repeat' (refine ar_id ?_; first | refine st1 ?_ | (first | ((first | refine ar_region tt_ok (inps := []) rfl ?_ ?_); rotate_left; (try refine nrm ?_); rotate_right) | refine ret3 ?_ | refine end3 ?_) | (refine ar_cond rfl trivial ?_ ?_ <;> intro hc_ <;> (try simp only [isNilI, inB, reduceCtorEq, cds] at hc_) <;> (try (first | contradiction | (exfalso; omega)))) | refine ar_until (And.intro ?_ (wk3 ?_)))
    all_goals (first | refine ar_id ?_ | (try (focus ((try refine nrmO ?_); (repeat' (first | exact True.intro | refine And.intro ?_ ?_)); all_goals (try (intro (hg_ : _ = true); (try simp only [isNilI, inB, reduceCtorEq, cds] at hg_); (repeat' (first | exact True.intro | refine And.intro ?_ ?_)))); all_goals (first | exact ob1 | skip)))))
    refine ar_nil (s := 2) (T := 4) (q := 1) (r := 90000) rfl rfl ?_
    repeat' (refine ar_id ?_; first | refine st1 ?_ | (first | ((first | refine ar_region tt_ok (inps := []) rfl ?_ ?_); rotate_left; (try refine nrm ?_); rotate_right) | refine ret3 ?_ | refine end3 ?_) | (refine ar_cond rfl trivial ?_ ?_ <;> intro hc_ <;> (try simp only [isNilI, inB, reduceCtorEq, cds] at hc_) <;> (try (first | contradiction | (exfalso; omega)))) | refine ar_until (And.intro ?_ (wk3 ?_)))
    all_goals (first | refine ar_id ?_ | (try (focus ((try refine nrmO ?_); (repeat' (first | exact True.intro | refine And.intro ?_ ?_)); all_goals (try (intro (hg_ : _ = true); (try simp only [isNilI, inB, reduceCtorEq, cds] at hg_); (repeat' (first | exact True.intro | refine And.intro ?_ ?_)))); all_goals (first | exact ob1 | skip)))))
    rw [List.length_eq_zero_iff.1 hn]; rfl
  · intro ad cap hr
    repeat' (refine ar_id ?_; first | refine st1 ?_ | (first | ((first | refine ar_region tt_ok (inps := []) rfl ?_ ?_); rotate_left; (try refine nrm ?_); rotate_right) | refine ret3 ?_ | refine end3 ?_) | (refine ar_cond rfl trivial ?_ ?_ <;> intro hc_ <;> (try simp only [isNilI, inB, reduceCtorEq, cds] at hc_) <;> (try (first | contradiction | (exfalso; omega)))) | refine ar_until (And.intro ?_ (wk3 ?_)))
    all_goals (first | refine ar_id ?_ | (try (focus ((try refine nrmO ?_); (repeat' (first | exact True.intro | refine And.intro ?_ ?_)); all_goals (try (intro (hg_ : _ = true); (try simp only [isNilI, inB, reduceCtorEq, cds] at hg_); (repeat' (first | exact True.intro | refine And.intro ?_ ?_)))); all_goals (first | exact ob1 | skip)))))
    refine ar_read (s := 0) hr rfl ?_
    repeat' (refine ar_id ?_; first | refine st1 ?_ | (first | ((first | refine ar_region (id := 3) tt_ok (inps := [.elems (l.map Tr.eB)]) rfl ?_ ?_ | refine ar_region tt_ok (inps := []) rfl ?_ ?_); rotate_left; (try refine nrm ?_); rotate_right) | refine ret3 ?_ | refine end3 ?_) | (refine ar_cond rfl trivial ?_ ?_ <;> intro hc_ <;> (try simp only [isNilI, inB, reduceCtorEq, cds] at hc_) <;> (try (first | contradiction | (exfalso; omega)))) | refine ar_until (And.intro ?_ (wk3 ?_)))
    all_goals (first | refine ar_id ?_ | (try (focus ((try refine nrmO ?_); (repeat' (first | exact True.intro | refine And.intro ?_ ?_)); all_goals (try (intro (hg_ : _ = true); (try simp only [isNilI, inB, reduceCtorEq, cds] at hg_); (repeat' (first | exact True.intro | refine And.intro ?_ ?_)))); all_goals (first | exact ob1 | exact flat_map' l (fun x => ⟨rfl, rfl, trivial⟩) | exact (by simp only [lns]; omega) | exact (by simp) | skip)))))
def c_CloneI (l : List Int) : CFD := ⟨52, [.one (ro 3 1 Tr.eI l)], [], .sv (.one (.hd 0)), [(0, some (.row 3 1 (l.map Tr.eI)))], [0], []⟩
theorem fn_CloneI (l : List Int) (hl : l.length ≤ 1048576) : Fn Tryz.prog (c_CloneI l) := by
  refine fn_intro tt_ok Tryz.func52 rfl Tryz.call52 Tryz.ntmps52 Tryz.results52 rfl rfl rfl rfl ?_
  intro X ρ0 hb_ hgl_
  dsimp only [c_CloneI]
  try refine nrm ?_
  repeat' (refine ar_id ?_; first | refine st1 ?_ | (first | ((first | refine ar_region tt_ok (inps := []) rfl ?_ ?_); rotate_left; (try refine nrm ?_); rotate_right) | refine ret3 ?_ | refine end3 ?_) | (refine ar_cond rfl trivial ?_ ?_ <;> intro hc_ <;> (try simp only [isNilI, inB, reduceCtorEq, cds] at hc_) <;> (try (first | contradiction | (exfalso; omega)))) | refine ar_until (And.intro ?_ (wk3 ?_)))
  all_goals (first | refine ar_id ?_ | (try (focus ((try refine nrmO ?_); (repeat' (first | exact True.intro | refine And.intro ?_ ?_)); all_goals (try (intro (hg_ : _ = true); (try simp only [isNilI, inB, reduceCtorEq, cds] at hg_); (repeat' (first | exact True.intro | refine And.intro ?_ ?_)))); all_goals (first | exact ob1 | skip)))))
  refine ar_split (s := 0) rfl ?_ ?_
  · intro hn hc
    repeat' (refine ar_id ?_; first | refine st1 ?_ | (first | ((first | refine ar_region tt_ok (inps := []) rfl ?_ ?_); rotate_left; (try refine nrm ?_); rotate_right) | refine ret3 ?_ | refine end3 ?_) | (refine ar_cond rfl trivial ?_ ?_ <;> intro hc_ <;> (try simp only [isNilI, inB, reduceCtorEq, cds] at hc_) <;> (try (first | contradiction | (exfalso; omega)))) | refine ar_until (And.intro ?_ (wk3 ?_)))
    all_goals (first | refine ar_id ?_ | (try (focus ((try refine nrmO ?_); (repeat' (first | exact True.intro | refine And.intro ?_ ?_)); all_goals (try (intro (hg_ : _ = true); (try simp only [isNilI, inB, reduceCtorEq, cds] at hg_); (repeat' (first | exact True.intro | refine And.intro ?_ ?_)))); all_goals (first | exact ob1 | skip)))))
    refine ar_nil (s := 2) (T := 3) (q := 1) (r := 90000) rfl rfl ?_
    repeat' (refine ar_id ?_; first | refine st1 ?_ | (first | ((first | refine ar_region tt_ok (inps := []) rfl ?_ ?_); rotate_left; (try refine nrm ?_); rotate_right) | refine ret3 ?_ | refine end3 ?_) | (refine ar_cond rfl trivial ?_ ?_ <;> intro hc_ <;> (try simp only [isNilI, inB, reduceCtorEq, cds] at hc_) <;> (try (first | contradiction | (exfalso; omega)))) | refine ar_until (And.intro ?_ (wk3 ?_)))
    all_goals (first | refine ar_id ?_ | (try (focus ((try refine nrmO ?_); (repeat' (first | exact True.intro | refine And.intro ?_ ?_)); all_goals (try (intro (hg_ : _ = true); (try simp only [isNilI, inB, reduceCtorEq, cds] at hg_); (repeat' (first | exact True.intro | refine And.intro ?_ ?_)))); all_goals (first | exact ob1 | skip)))))
    rw [List.length_eq_zero_iff.1 hn]; rfl
  · intro ad cap hr
    repeat' (refine ar_id ?_; first | refine st1 ?_ | (first | ((first | refine ar_region tt_ok (inps := []) rfl ?_ ?_); rotate_left; (try refine nrm ?_); rotate_right) | refine ret3 ?_ | refine end3 ?_) | (refine ar_cond rfl trivial ?_ ?_ <;> intro hc_ <;> (try simp only [isNilI, inB, reduceCtorEq, cds] at hc_) <;> (try (first | contradiction | (exfalso; omega)))) | refine ar_until (And.intro ?_ (wk3 ?_)))
    all_goals (first | refine ar_id ?_ | (try (focus ((try refine nrmO ?_); (repeat' (first | exact True.intro | refine And.intro ?_ ?_)); all_goals (try (intro (hg_ : _ = true); (try simp only [isNilI, inB, reduceCtorEq, cds] at hg_); (repeat' (first | exact True.intro | refine And.intro ?_ ?_)))); all_goals (first | exact ob1 | skip)))))
    refine ar_read (s := 0) hr rfl ?_
    repeat' (refine ar_id ?_; first | refine st1 ?_ | (first | ((first | refine ar_region (id := 3) tt_ok (inps := [.elems (l.map Tr.eI)]) rfl ?_ ?_ | refine ar_region tt_ok (inps := []) rfl ?_ ?_); rotate_left; (try refine nrm ?_); rotate_right) | refine ret3 ?_ | refine end3 ?_) | (refine ar_cond rfl trivial ?_ ?_ <;> intro hc_ <;> (try simp only [isNilI, inB, reduceCtorEq, cds] at hc_) <;> (try (first | contradiction | (exfalso; omega)))) | refine ar_until (And.intro ?_ (wk3 ?_)))
    all_goals (first | refine ar_id ?_ | (try (focus ((try refine nrmO ?_); (repeat' (first | exact True.intro | refine And.intro ?_ ?_)); all_goals (try (intro (hg_ : _ = true); (try simp only [isNilI, inB, reduceCtorEq, cds] at hg_); (repeat' (first | exact True.intro | refine And.intro ?_ ?_)))); all_goals (first | exact ob1 | exact flat_map' l (fun x => ⟨rfl, rfl, trivial⟩) | exact (by simp only [lns]; omega) | exact (by simp) | skip)))))
def c_CloneE (l : List GEntry) : CFD := ⟨132, [.one (ro 45 2 eEntry l)], [], .sv (.one (.hd 0)), [(0, some (.row 45 2 (l.map eEntry)))], [0], []⟩
theorem fn_CloneE (l : List GEntry) (hl : l.length ≤ 1048576) : Fn Tryz.prog (c_CloneE l) := by
  refine fn_intro tt_ok Tryz.func132 rfl Tryz.call132 Tryz.ntmps132 Tryz.results132 rfl rfl rfl rfl ?_
  intro X ρ0 hb_ hgl_
  dsimp only [c_CloneE]
  try refine nrm ?_
  repeat' (refine ar_id ?_; first | refine st1 ?_ | (first | ((first | refine ar_region tt_ok (inps := []) rfl ?_ ?_); rotate_left; (try refine nrm ?_); rotate_right) | refine ret3 ?_ | refine end3 ?_) | (refine ar_cond rfl trivial ?_ ?_ <;> intro hc_ <;> (try simp only [isNilI, inB, reduceCtorEq, cds] at hc_) <;> (try (first | contradiction | (exfalso; omega)))) | refine ar_until (And.intro ?_ (wk3 ?_)))
  all_goals (first | refine ar_id ?_ | (try (focus ((try refine nrmO ?_); (repeat' (first | exact True.intro | refine And.intro ?_ ?_)); all_goals (try (intro (hg_ : _ = true); (try simp only [isNilI, inB, reduceCtorEq, cds] at hg_); (repeat' (first | exact True.intro | refine And.intro ?_ ?_)))); all_goals (first | exact ob1 | skip)))))
  refine ar_split (s := 0) rfl ?_ ?_
  · intro hn hc
    repeat' (refine ar_id ?_; first | refine st1 ?_ | (first | ((first | refine ar_region tt_ok (inps := []) rfl ?_ ?_); rotate_left; (try refine nrm ?_); rotate_right) | refine ret3 ?_ | refine end3 ?_) | (refine ar_cond rfl trivial ?_ ?_ <;> intro hc_ <;> (try simp only [isNilI, inB, reduceCtorEq, cds] at hc_) <;> (try (first | contradiction | (exfalso; omega)))) | refine ar_until (And.intro ?_ (wk3 ?_)))
    all_goals (first | refine ar_id ?_ | (try (focus ((try refine nrmO ?_); (repeat' (first | exact True.intro | refine And.intro ?_ ?_)); all_goals (try (intro (hg_ : _ = true); (try simp only [isNilI, inB, reduceCtorEq, cds] at hg_); (repeat' (first | exact True.intro | refine And.intro ?_ ?_)))); all_goals (first | exact ob1 | skip)))))
    refine ar_nil (s := 2) (T := 45) (q := 2) (r := 90000) rfl rfl ?_
    repeat' (refine ar_id ?_; first | refine st1 ?_ | (first | ((first | refine ar_region tt_ok (inps := []) rfl ?_ ?_); rotate_left; (try refine nrm ?_); rotate_right) | refine ret3 ?_ | refine end3 ?_) | (refine ar_cond rfl trivial ?_ ?_ <;> intro hc_ <;> (try simp only [isNilI, inB, reduceCtorEq, cds] at hc_) <;> (try (first | contradiction | (exfalso; omega)))) | refine ar_until (And.intro ?_ (wk3 ?_)))
    all_goals (first | refine ar_id ?_ | (try (focus ((try refine nrmO ?_); (repeat' (first | exact True.intro | refine And.intro ?_ ?_)); all_goals (try (intro (hg_ : _ = true); (try simp only [isNilI, inB, reduceCtorEq, cds] at hg_); (repeat' (first | exact True.intro | refine And.intro ?_ ?_)))); all_goals (first | exact ob1 | skip)))))
    rw [List.length_eq_zero_iff.1 hn]; rfl
  · intro ad cap hr
    repeat' (refine ar_id ?_; first | refine st1 ?_ | (first | ((first | refine ar_region tt_ok (inps := []) rfl ?_ ?_); rotate_left; (try refine nrm ?_); rotate_right) | refine ret3 ?_ | refine end3 ?_) | (refine ar_cond rfl trivial ?_ ?_ <;> intro hc_ <;> (try simp only [isNilI, inB, reduceCtorEq, cds] at hc_) <;> (try (first | contradiction | (exfalso; omega)))) | refine ar_until (And.intro ?_ (wk3 ?_)))
    all_goals (first | refine ar_id ?_ | (try (focus ((try refine nrmO ?_); (repeat' (first | exact True.intro | refine And.intro ?_ ?_)); all_goals (try (intro (hg_ : _ = true); (try simp only [isNilI, inB, reduceCtorEq, cds] at hg_); (repeat' (first | exact True.intro | refine And.intro ?_ ?_)))); all_goals (first | exact ob1 | skip)))))
    refine ar_read (s := 0) hr rfl ?_
    repeat' (refine ar_id ?_; first | refine st1 ?_ | (first | ((first | refine ar_region (id := 3) tt_ok (inps := [.elems (l.map eEntry)]) rfl ?_ ?_ | refine ar_region tt_ok (inps := []) rfl ?_ ?_); rotate_left; (try refine nrm ?_); rotate_right) | refine ret3 ?_ | refine end3 ?_) | (refine ar_cond rfl trivial ?_ ?_ <;> intro hc_ <;> (try simp only [isNilI, inB, reduceCtorEq, cds] at hc_) <;> (try (first | contradiction | (exfalso; omega)))) | refine ar_until (And.intro ?_ (wk3 ?_)))
    all_goals (first | refine ar_id ?_ | (try (focus ((try refine nrmO ?_); (repeat' (first | exact True.intro | refine And.intro ?_ ?_)); all_goals (try (intro (hg_ : _ = true); (try simp only [isNilI, inB, reduceCtorEq, cds] at hg_); (repeat' (first | exact True.intro | refine And.intro ?_ ?_)))); all_goals (first | exact ob1 | exact flat_map' l (fun x => ⟨rfl, rfl, rfl, trivial⟩) | exact (by simp only [lns]; omega) | exact (by simp) | skip)))))
end Eng
end Go.Proofs.YtlkkiopjknbomaaGreatDoor
namespace Go.Proofs.YtlkkiopjknbomaaGreatDoor
open Go.RowKit
set_option linter.unusedVariables false
set_option linter.unusedSimpArgs false
set_option maxRecDepth 100000
namespace Eng
open Tr
def c_cellX (x : Int) : CFD := ⟨130, [(SV.one (.lit (.int .i64 (x))))], [], (TV.sv (.one (.lit (.bool (decide (0 ≤ x ∧ x ≤ 15)))))), [], [], []⟩
theorem fn_cellX (x : Int) : Fn Tryz.prog (c_cellX x) := by
  refine fn_intro tt_ok Tryz.func130 rfl Tryz.call130 Tryz.ntmps130 Tryz.results130 rfl rfl rfl rfl ?_
  intro X ρ0 hb_ hgl_
  dsimp only [c_cellX]
  try refine nrm ?_
  repeat' (refine ar_id ?_; first | refine st1 ?_ | (first | ((first | refine ar_region tt_ok (inps := []) rfl ?_ ?_); rotate_left; (try refine nrm ?_); rotate_right) | refine ret3 ?_ | refine end3 ?_) | (refine ar_cond rfl trivial ?_ ?_ <;> intro hc_ <;> (try simp only [isNilI, inB, reduceCtorEq, cds] at hc_) <;> (try (first | contradiction | (exfalso; omega)))) | refine ar_until (And.intro ?_ (wk3 ?_)))
  all_goals (first | refine ar_id ?_ | (try (focus ((try refine nrmO ?_); (repeat' (first | exact True.intro | refine And.intro ?_ ?_)); all_goals (try (intro (hg_ : _ = true); (try simp only [isNilI, inB, reduceCtorEq, cds] at hg_); (repeat' (first | exact True.intro | refine And.intro ?_ ?_)))); all_goals (first | exact ob1 | skip)))))
  refine congrArg Value.bool ?_
  rw [Bool.cond_false_right, ← Bool.decide_and]
  exact decide_eq_decide.2 (by omega)
def c_ascI (l : List Int) : CFD := ⟨88, [.one (ro 3 1 Tr.eI l)], [], (TV.sv (.one (.lit (.bool (decide (asc l)))))), [], [], []⟩
theorem asc_no {l : List Int} {i : Nat} (hi : i < l.length) (h : ¬ okAt l i) : decide (asc l) = false := decide_eq_false fun hp => h (hp i hi)
theorem fn_ascI (l : List Int) (hl : l.length ≤ 1048576) : Fn Tryz.prog (c_ascI l) := by
  refine fn_intro tt_ok Tryz.func88 rfl Tryz.call88 Tryz.ntmps88 Tryz.results88 rfl rfl rfl rfl ?_
  intro X ρ0 hb_ hgl_
  dsimp only [c_ascI]
  try refine nrm ?_
  repeat' (refine ar_id ?_; first | refine st1 ?_ | (first | ((first | refine ar_region tt_ok (inps := []) rfl ?_ ?_); rotate_left; (try refine nrm ?_); rotate_right) | refine ret3 ?_ | refine end3 ?_) | (refine ar_cond rfl trivial ?_ ?_ <;> intro hc_ <;> (try simp only [isNilI, inB, reduceCtorEq, cds] at hc_) <;> (try (first | contradiction | (exfalso; omega)))) | refine ar_until (And.intro ?_ (wk3 ?_)))
  all_goals (first | refine ar_id ?_ | (try (focus ((try refine nrmO ?_); (repeat' (first | exact True.intro | refine And.intro ?_ ?_)); all_goals (try (intro (hg_ : _ = true); (try simp only [isNilI, inB, reduceCtorEq, cds] at hg_); (repeat' (first | exact True.intro | refine And.intro ?_ ?_)))); all_goals (first | exact ob1 | skip)))))
  refine ar_keep 493 (by dsimp only [keepS] <;> exact rfl) ?_
  refine ar_forM (l.length) (fun i => ∀ k, k < i → okAt l k) (fun i => [(8, (TV.sv (.one (.lit (.int .i64 (i)))))), (3, (TV.sv (.one (.lit (.int .i64 ((lastV l i)))))))]) (fun i => []) ?_ ?_ ?_
  rotate_left
  · first | trivial | simp
  (dsimp only [rnCap, capSVs, Int.toNat_natCast, ro, Nat.reduceAdd, Nat.reduceMul, Nat.zero_add, List.map, putT, app, wrapG, gOb, argT, keys, slotOf, dropped, gAnd, wB, rnT, rnS, rnC, rnCs, rnSs, rnM, rnB, rnN, rn, lk, St.over, ded, delL, keepT, menT, menSs, menS, menCs, menC, hasN, resT, SV.cells]; refine wk3 ?_; (focus ((try refine nrmO ?_); (repeat' (first | exact True.intro | refine And.intro ?_ ?_)); all_goals (try (intro (hg_ : _ = true); (try simp only [isNilI, inB, reduceCtorEq, cds] at hg_); (repeat' (first | exact True.intro | refine And.intro ?_ ?_)))); all_goals (first | exact ob1 | exact rfl | skip))))
  rotate_right
  intro i hi_ hiI_
  dsimp only [rnCap, capSVs, Int.toNat_natCast, ro, Nat.reduceAdd, Nat.reduceMul, Nat.zero_add, List.map, putT, app, wrapG, gOb, argT, keys, slotOf, dropped, gAnd, wB, rnT, rnS, rnC, rnCs, rnSs, rnM, rnB, rnN, rn, lk, St.over, ded, delL, keepT, menT, menSs, menS, menCs, menC, hasN, resT, SV.cells]
  repeat' (refine ar_id ?_; first | refine st1 ?_ | (first | ((first | refine ar_region (id := 4) tt_ok (inps := [.elem (Tr.eI (l.getD i 0))]) rfl ?_ ?_ | refine ar_region (id := 5) tt_ok (inps := [.call (c_cellX (l.getD i 0))]) rfl ?_ ?_ | refine ar_region tt_ok (inps := []) rfl ?_ ?_); rotate_left; (try dsimp only [c_cellX]); (try refine nrm ?_); rotate_right) | refine ret3 ?_ | refine end3 ?_) | (refine ar_cond rfl trivial ?_ ?_ <;> intro hc_ <;> (try simp only [isNilI, inB, reduceCtorEq, cds] at hc_) <;> (try (first | contradiction | (exfalso; omega)))) | refine ar_until (And.intro ?_ (wk3 ?_)))
  all_goals (first | refine ar_id ?_ | (try (focus ((try refine nrmO ?_); (repeat' (first | exact True.intro | refine And.intro ?_ ?_)); all_goals (try (intro (hg_ : _ = true); (try simp only [isNilI, inB, reduceCtorEq, cds] at hg_); (repeat' (first | exact True.intro | refine And.intro ?_ ?_)))); all_goals (first | exact ob1 | exact fn_cellX _ | skip)))))
  · rw [asc_no (i := i) (by omega) (by unfold okAt; omega)]
  · exact ok_next hiI_ hc_
  · rfl
  · rw [decide_eq_true (show asc l from fun k hk => hiI_ k (by omega))]
def c_PlanOkI (p : GPlan) : CFD := ⟨42, [.agg [(CV.lit (.int .i64 (p.Keep))), (CV.lit (.int .i64 (p.Move))), ro 3 1 Tr.eI p.Cells]], [], (TV.sv (.one (.lit (.bool (pPlanOk p))))), [], [], []⟩
theorem fn_PlanOkI (p : GPlan) (hl : p.Cells.length ≤ 1048576) : Fn Tryz.prog (c_PlanOkI p) := by
  refine fn_intro tt_ok Tryz.func42 rfl Tryz.call42 Tryz.ntmps42 Tryz.results42 rfl rfl rfl rfl ?_
  intro X ρ0 hb_ hgl_
  dsimp only [c_PlanOkI]
  try refine nrm ?_
  repeat' (refine ar_id ?_; first | refine st1 ?_ | (first | ((first | refine ar_region (id := 1) tt_ok (inps := [.call (c_ascI p.Cells)]) rfl ?_ ?_ | refine ar_region tt_ok (inps := []) rfl ?_ ?_); rotate_left; (try dsimp only [c_ascI]); (try refine nrm ?_); rotate_right) | refine ret3 ?_ | refine end3 ?_) | (refine ar_cond rfl trivial ?_ ?_ <;> intro hc_ <;> (try simp only [isNilI, inB, reduceCtorEq, cds] at hc_) <;> (try (first | contradiction | (exfalso; omega)))) | refine ar_until (And.intro ?_ (wk3 ?_)))
  all_goals (first | refine ar_id ?_ | (try (focus ((try refine nrmO ?_); (repeat' (first | exact True.intro | refine And.intro ?_ ?_)); all_goals (try (intro (hg_ : _ = true); (try simp only [isNilI, inB, reduceCtorEq, cds] at hg_); (repeat' (first | exact True.intro | refine And.intro ?_ ?_)))); all_goals (first | exact ob1 | exact fn_ascI _ hl | skip)))))
  refine congrArg Value.bool ?_
  rw [Bool.eq_iff_iff]
  unfold pPlanOk
  rw [decide_eq_true_eq]
  have h1 : 0 ≤ mmI true p.Keep p.Move ↔ 0 ≤ p.Keep ∧ 0 ≤ p.Move := by simp only [mmI]; split <;> omega
  have h2 : mmI false p.Keep p.Move < 32 ↔ p.Keep ≤ 31 ∧ p.Move ≤ 31 := by simp only [mmI]; split <;> omega
  simp only [Bool.cond_false_right, Bool.and_eq_true, decide_eq_true_eq, bne_iff_ne, ge_iff_le, h1, h2]
  unfold plOk
  exact ⟨fun h => ⟨h.1.1.1, ⟨h.1.1.2.1, h.1.2.1⟩, ⟨h.1.1.2.2, h.1.2.2⟩, h.2⟩, fun h => ⟨⟨⟨h.1, h.2.1.1, h.2.2.1.1⟩, h.2.1.2, h.2.2.1.2⟩, h.2.2.2⟩⟩
end Eng
end Go.Proofs.YtlkkiopjknbomaaGreatDoor
namespace Go.Proofs.YtlkkiopjknbomaaGreatDoor
open Go.RowKit
set_option linter.unusedVariables false
set_option linter.unusedSimpArgs false
set_option maxRecDepth 100000
namespace Eng
open Tr
def c_copyJI (j : GJob) : CFD := ⟨43, [.agg [(CV.lit (.int .i64 (j.Plan.Keep))), (CV.lit (.int .i64 (j.Plan.Move))), ro 3 1 Tr.eI j.Plan.Cells, (CV.lit (.int .i64 (j.Phase))), (CV.lit (.int .i64 (j.Next)))]], [], .sv (.agg [(CV.lit (.int .i64 (j.Plan.Keep))), (CV.lit (.int .i64 (j.Plan.Move))), .hd 0, (CV.lit (.int .i64 (j.Phase))), (CV.lit (.int .i64 (j.Next)))]), [(0, some (.row 3 1 (j.Plan.Cells.map Tr.eI)))], [0], []⟩
theorem fn_copyJI (j : GJob) (hl : j.Plan.Cells.length ≤ 1048576) : Fn Tryz.prog (c_copyJI j) := by
  refine fn_intro tt_ok Tryz.func43 rfl Tryz.call43 Tryz.ntmps43 Tryz.results43 rfl rfl rfl rfl ?_
  intro X ρ0 hb_ hgl_
  dsimp only [c_copyJI]
  try refine nrm ?_
  repeat' (refine ar_id ?_; first | refine st1 ?_ | (first | ((first | refine ar_region (id := 1) tt_ok (inps := [.call (c_CloneI j.Plan.Cells)]) rfl ?_ ?_ | refine ar_region tt_ok (inps := []) rfl ?_ ?_); rotate_left; (try dsimp only [c_CloneI]); (try refine nrm ?_); rotate_right) | refine ret3 ?_ | refine end3 ?_) | (refine ar_cond rfl trivial ?_ ?_ <;> intro hc_ <;> (try simp only [isNilI, inB, reduceCtorEq, cds] at hc_) <;> (try (first | contradiction | (exfalso; omega)))) | refine ar_until (And.intro ?_ (wk3 ?_)))
  all_goals (first | refine ar_id ?_ | (try (focus ((try refine nrmO ?_); (repeat' (first | exact True.intro | refine And.intro ?_ ?_)); all_goals (try (intro (hg_ : _ = true); (try simp only [isNilI, inB, reduceCtorEq, cds] at hg_); (repeat' (first | exact True.intro | refine And.intro ?_ ?_)))); all_goals (first | exact ob1 | exact fn_CloneI _ hl | skip)))))
  all_goals trace_state
def c_JobNewI (p : GPlan) : CFD := ⟨10, [.agg [(CV.lit (.int .i64 (p.Keep))), (CV.lit (.int .i64 (p.Move))), ro 3 1 Tr.eI p.Cells]], [], .tup [.agg [(CV.lit (.int .i64 (((pJobNew p).1).Plan.Keep))), (CV.lit (.int .i64 (((pJobNew p).1).Plan.Move))), .hd 0, (CV.lit (.int .i64 (((pJobNew p).1).Phase))), (CV.lit (.int .i64 (((pJobNew p).1).Next)))], (SV.one (.lit (.bool ((pJobNew p).2))))], [(0, some (.row 3 1 (((pJobNew p).1).Plan.Cells.map Tr.eI)))], [0], []⟩
theorem fn_JobNewI (p : GPlan) (hl : p.Cells.length ≤ 1048576) : Fn Tryz.prog (c_JobNewI p) := by
  by_cases h : plOk p
  · have hok : pPlanOk p = true := decide_eq_true h
    have hV : pJobNew p = (⟨p, 0, 0⟩, true) := if_pos h
    refine fn_intro tt_ok Tryz.func10 rfl Tryz.call10 Tryz.ntmps10 Tryz.results10 rfl rfl rfl rfl ?_
    intro X ρ0 hb_ hgl_
    dsimp only [c_JobNewI]
    try refine nrm ?_
    rw [hV]
    repeat' (refine ar_id ?_; first | refine st1 ?_ | (first | ((first | refine ar_region (id := 1) tt_ok (inps := [.call (c_PlanOkI p)]) rfl ?_ ?_ | refine ar_region (id := 3) tt_ok (inps := [.call (c_copyJI ⟨p, 0, 0⟩)]) rfl ?_ ?_ | refine ar_region tt_ok (inps := []) rfl ?_ ?_); rotate_left; (try dsimp only [c_PlanOkI, c_copyJI]); (try refine nrm ?_); rotate_right) | refine ret3 ?_ | refine end3 ?_) | (refine ar_cond rfl trivial ?_ ?_ <;> intro hc_ <;> (try simp only [isNilI, inB, reduceCtorEq, cds] at hc_) <;> (try (first | contradiction | (exfalso; omega) | (exfalso; grind)))) | refine ar_until (And.intro ?_ (wk3 ?_)))
    all_goals (first | refine ar_id ?_ | (try (focus ((try refine nrmO ?_); (repeat' (first | exact True.intro | refine And.intro ?_ ?_)); all_goals (try (intro (hg_ : _ = true); (try simp only [isNilI, inB, reduceCtorEq, cds] at hg_); (repeat' (first | exact True.intro | refine And.intro ?_ ?_)))); all_goals (first | exact ob1 | exact fn_PlanOkI p hl | exact fn_copyJI ⟨p, 0, 0⟩ hl | skip)))))
  · have hok : pPlanOk p = false := decide_eq_false h
    have hV : pJobNew p = (noJ, false) := if_neg h
    refine fn_intro tt_ok Tryz.func10 rfl Tryz.call10 Tryz.ntmps10 Tryz.results10 rfl rfl rfl rfl ?_
    intro X ρ0 hb_ hgl_
    dsimp only [c_JobNewI]
    try refine nrm ?_
    rw [hV]
    repeat' (refine ar_id ?_; first | refine st1 ?_ | (first | ((first | refine ar_region (id := 1) tt_ok (inps := [.call (c_PlanOkI p)]) rfl ?_ ?_ | refine ar_region tt_ok (inps := []) rfl ?_ ?_); rotate_left; (try dsimp only [c_PlanOkI]); (try refine nrm ?_); rotate_right) | refine ret3 ?_ | refine end3 ?_) | (refine ar_cond rfl trivial ?_ ?_ <;> intro hc_ <;> (try simp only [isNilI, inB, reduceCtorEq, cds] at hc_) <;> (try (first | contradiction | (exfalso; omega) | (exfalso; grind)))) | refine ar_until (And.intro ?_ (wk3 ?_)))
    all_goals (first | refine ar_id ?_ | (try (focus ((try refine nrmO ?_); (repeat' (first | exact True.intro | refine And.intro ?_ ?_)); all_goals (try (intro (hg_ : _ = true); (try simp only [isNilI, inB, reduceCtorEq, cds] at hg_); (repeat' (first | exact True.intro | refine And.intro ?_ ?_)))); all_goals (first | exact ob1 | exact fn_PlanOkI p hl | skip)))))
    refine ar_nilB (b := 2) (j := 2) (T := 3) (q := 1) (r := 90000) rfl rfl rfl rfl rfl ?_
    repeat' (refine ar_id ?_; first | refine st1 ?_ | (first | ((first | refine ar_region tt_ok (inps := []) rfl ?_ ?_); rotate_left; (try refine nrm ?_); rotate_right) | refine ret3 ?_ | refine end3 ?_) | (refine ar_cond rfl trivial ?_ ?_ <;> intro hc_ <;> (try simp only [isNilI, inB, reduceCtorEq, cds] at hc_) <;> (try (first | contradiction | (exfalso; omega)))) | refine ar_until (And.intro ?_ (wk3 ?_)))
    all_goals (first | refine ar_id ?_ | (try (focus ((try refine nrmO ?_); (repeat' (first | exact True.intro | refine And.intro ?_ ?_)); all_goals (try (intro (hg_ : _ = true); (try simp only [isNilI, inB, reduceCtorEq, cds] at hg_); (repeat' (first | exact True.intro | refine And.intro ?_ ?_)))); all_goals (first | exact ob1 | skip)))))
    all_goals rfl
def c_JobOkI (j : GJob) : CFD := ⟨24, [.agg [(CV.lit (.int .i64 (j.Plan.Keep))), (CV.lit (.int .i64 (j.Plan.Move))), ro 3 1 Tr.eI j.Plan.Cells, (CV.lit (.int .i64 (j.Phase))), (CV.lit (.int .i64 (j.Next)))]], [], (TV.sv (.one (.lit (.bool (pJobOk j))))), [], [], []⟩
theorem fn_JobOkI (j : GJob) (hl : j.Plan.Cells.length ≤ 1048576) : Fn Tryz.prog (c_JobOkI j) := by
  refine fn_intro tt_ok Tryz.func24 rfl Tryz.call24 Tryz.ntmps24 Tryz.results24 rfl rfl rfl rfl ?_
  intro X ρ0 hb_ hgl_
  dsimp only [c_JobOkI]
  try refine nrm ?_
  repeat' (refine ar_id ?_; first | refine st1 ?_ | (first | ((first | refine ar_region (id := 1) tt_ok (inps := [.call (c_PlanOkI j.Plan)]) rfl ?_ ?_ | refine ar_region tt_ok (inps := []) rfl ?_ ?_); rotate_left; (try dsimp only [c_PlanOkI]); (try refine nrm ?_); rotate_right) | refine ret3 ?_ | refine end3 ?_) | (refine ar_cond rfl trivial ?_ ?_ <;> intro hc_ <;> (try simp only [isNilI, inB, reduceCtorEq, cds] at hc_) <;> (try (first | contradiction | (exfalso; omega)))) | refine ar_until (And.intro ?_ (wk3 ?_)))
  all_goals (first | refine ar_id ?_ | (try (focus ((try refine nrmO ?_); (repeat' (first | exact True.intro | refine And.intro ?_ ?_)); all_goals (try (intro (hg_ : _ = true); (try simp only [isNilI, inB, reduceCtorEq, cds] at hg_); (repeat' (first | exact True.intro | refine And.intro ?_ ?_)))); all_goals (first | exact ob1 | exact fn_PlanOkI j.Plan hl | skip)))))
  refine congrArg Value.bool ?_
  rw [Bool.eq_iff_iff]
  unfold pJobOk
  rw [decide_eq_true_iff]
  simp only [pPlanOk, okJ, Bool.cond_false_right, Bool.and_eq_true, decide_eq_true_eq]
  exact ⟨fun h => ⟨h.1.1.1.1, ⟨h.1.1.1.2, h.1.1.2⟩, h.1.2, h.2⟩, fun h => ⟨⟨⟨⟨h.1, h.2.1.1⟩, h.2.1.2⟩, h.2.2.1⟩, h.2.2.2⟩⟩
def c_ActI (j : GJob) : CFD := ⟨26, [.agg [(CV.lit (.int .i64 (j.Plan.Keep))), (CV.lit (.int .i64 (j.Plan.Move))), ro 3 1 Tr.eI j.Plan.Cells, (CV.lit (.int .i64 (j.Phase))), (CV.lit (.int .i64 (j.Next)))]], [], (TV.sv (.one (.lit (.bool (pJobActive j))))), [], [], []⟩
theorem fn_ActI (j : GJob) (hl : j.Plan.Cells.length ≤ 1048576) : Fn Tryz.prog (c_ActI j) := by
  refine fn_intro tt_ok Tryz.func26 rfl Tryz.call26 Tryz.ntmps26 Tryz.results26 rfl rfl rfl rfl ?_
  intro X ρ0 hb_ hgl_
  dsimp only [c_ActI]
  try refine nrm ?_
  repeat' (refine ar_id ?_; first | refine st1 ?_ | (first | ((first | refine ar_region (id := 1) tt_ok (inps := [.call (c_JobOkI j)]) rfl ?_ ?_ | refine ar_region tt_ok (inps := []) rfl ?_ ?_); rotate_left; (try dsimp only [c_JobOkI]); (try refine nrm ?_); rotate_right) | refine ret3 ?_ | refine end3 ?_) | (refine ar_cond rfl trivial ?_ ?_ <;> intro hc_ <;> (try simp only [isNilI, inB, reduceCtorEq, cds] at hc_) <;> (try (first | contradiction | (exfalso; omega)))) | refine ar_until (And.intro ?_ (wk3 ?_)))
  all_goals (first | refine ar_id ?_ | (try (focus ((try refine nrmO ?_); (repeat' (first | exact True.intro | refine And.intro ?_ ?_)); all_goals (try (intro (hg_ : _ = true); (try simp only [isNilI, inB, reduceCtorEq, cds] at hg_); (repeat' (first | exact True.intro | refine And.intro ?_ ?_)))); all_goals (first | exact ob1 | exact fn_JobOkI j hl | skip)))))
  refine congrArg Value.bool ?_
  rw [Bool.eq_iff_iff]
  unfold pJobActive
  rw [decide_eq_true_iff]
  simp only [pJobOk, Bool.cond_false_right, Bool.and_eq_true, decide_eq_true_eq]
  exact ⟨fun h => ⟨h.1.1, h.1.2, h.2⟩, fun h => ⟨⟨h.1, h.2.1⟩, h.2.2⟩⟩
def c_OverI (j : GJob) : CFD := ⟨46, [.agg [(CV.lit (.int .i64 (j.Plan.Keep))), (CV.lit (.int .i64 (j.Plan.Move))), ro 3 1 Tr.eI j.Plan.Cells, (CV.lit (.int .i64 (j.Phase))), (CV.lit (.int .i64 (j.Next)))]], [], (TV.sv (.one (.lit (.bool (decide (overJ j)))))), [], [], []⟩
theorem fn_OverI (j : GJob) : Fn Tryz.prog (c_OverI j) := by
  refine fn_intro tt_ok Tryz.func46 rfl Tryz.call46 Tryz.ntmps46 Tryz.results46 rfl rfl rfl rfl ?_
  intro X ρ0 hb_ hgl_
  dsimp only [c_OverI]
  try refine nrm ?_
  repeat' (refine ar_id ?_; first | refine st1 ?_ | (first | ((first | refine ar_region tt_ok (inps := []) rfl ?_ ?_); rotate_left; (try refine nrm ?_); rotate_right) | refine ret3 ?_ | refine end3 ?_) | (refine ar_cond rfl trivial ?_ ?_ <;> intro hc_ <;> (try simp only [isNilI, inB, reduceCtorEq, cds] at hc_) <;> (try (first | contradiction | (exfalso; omega)))) | refine ar_until (And.intro ?_ (wk3 ?_)))
  all_goals (first | refine ar_id ?_ | (try (focus ((try refine nrmO ?_); (repeat' (first | exact True.intro | refine And.intro ?_ ?_)); all_goals (try (intro (hg_ : _ = true); (try simp only [isNilI, inB, reduceCtorEq, cds] at hg_); (repeat' (first | exact True.intro | refine And.intro ?_ ?_)))); all_goals (first | exact ob1 | skip)))))
  refine congrArg Value.bool ?_
  rw [Bool.eq_iff_iff]
  rw [decide_eq_true_iff]
  simp only [overJ, Bool.cond_true_left, Bool.or_eq_true, beq_iff_eq]
end Eng
end Go.Proofs.YtlkkiopjknbomaaGreatDoor
namespace Go.Proofs.YtlkkiopjknbomaaGreatDoor
open Go.RowKit
set_option linter.unusedVariables false
set_option linter.unusedSimpArgs false
set_option maxRecDepth 100000
namespace Eng
open Tr
def c_vir (v : Int) : CFD := ⟨163, [(SV.one (.lit (.int .i64 (v))))], [], (TV.sv (.one (.lit (.bool (inB v 0 999))))), [], [], []⟩
theorem fn_vir (v : Int) : Fn Tryz.prog (c_vir v) := by
  refine fn_intro tt_ok Tryz.func163 rfl Tryz.call163 Tryz.ntmps163 Tryz.results163 rfl rfl rfl rfl ?_
  intro X ρ0 hb_ hgl_
  dsimp only [c_vir]
  try refine nrm ?_
  repeat' (refine ar_id ?_; first | refine st1 ?_ | (first | ((first | refine ar_region tt_ok (inps := []) rfl ?_ ?_); rotate_left; (try refine nrm ?_); rotate_right) | refine ret3 ?_ | refine end3 ?_) | (refine ar_cond rfl trivial ?_ ?_ <;> intro hc_ <;> (try simp only [isNilI, inB, reduceCtorEq, cds] at hc_) <;> (try (first | contradiction | (exfalso; omega)))) | refine ar_until (And.intro ?_ (wk3 ?_)))
  all_goals (first | refine ar_id ?_ | (try (focus ((try refine nrmO ?_); (repeat' (first | exact True.intro | refine And.intro ?_ ?_)); all_goals (try (intro (hg_ : _ = true); (try simp only [isNilI, inB, reduceCtorEq, cds] at hg_); (repeat' (first | exact True.intro | refine And.intro ?_ ?_)))); all_goals (first | exact ob1 | skip)))))
  exact congrArg Value.bool (by unfold inB; cases h : decide (v ≥ 0) <;> simp_all)
def c_frameOk (r : List Int) (u : Bool) : CFD := ⟨133, [.one (ro 3 1 Tr.eI r), (SV.one (.lit (.bool (u))))], [], (TV.sv (.one (.lit (.bool (decide (okRow u r)))))), [], [], []⟩
theorem fn_frameOk (r : List Int) (u : Bool) (hl : r.length ≤ 1048576) : Fn Tryz.prog (c_frameOk r u) := by
  refine fn_intro tt_ok Tryz.func133 rfl Tryz.call133 Tryz.ntmps133 Tryz.results133 rfl rfl rfl rfl ?_
  intro X ρ0 hb_ hgl_
  dsimp only [c_frameOk]
  try refine nrm ?_
  repeat' (refine ar_id ?_; first | refine st1 ?_ | (first | ((first | refine ar_region tt_ok (inps := []) rfl ?_ ?_); rotate_left; (try refine nrm ?_); rotate_right) | refine ret3 ?_ | refine end3 ?_) | (refine ar_cond rfl trivial ?_ ?_ <;> intro hc_ <;> (try simp only [isNilI, inB, reduceCtorEq, cds] at hc_) <;> (try (first | contradiction | (exfalso; omega)))) | refine ar_until (And.intro ?_ (wk3 ?_)))
  all_goals (first | refine ar_id ?_ | (try (focus ((try refine nrmO ?_); (repeat' (first | exact True.intro | refine And.intro ?_ ?_)); all_goals (try (intro (hg_ : _ = true); (try simp only [isNilI, inB, reduceCtorEq, cds] at hg_); (repeat' (first | exact True.intro | refine And.intro ?_ ?_)))); all_goals (first | exact ob1 | skip)))))
  · exact bf fun h => hc_ (by rw [h.1]; rfl)
  have hlen := hc_
  refine ar_keep 7251 (by dsimp only [keepS] <;> exact rfl) ?_
  refine ar_forM (r.length) (fun i => ∀ v ∈ r.take i, okV u v) (fun i => [(12, (TV.sv (.one (.lit (.int .i64 (i))))))]) (fun i => []) ?_ ?_ ?_
  rotate_left
  · first | trivial | simp
  (dsimp only [rnCap, capSVs, Int.toNat_natCast, ro, Nat.reduceAdd, Nat.reduceMul, Nat.zero_add, List.map, putT, app, wrapG, gOb, argT, keys, slotOf, dropped, gAnd, wB, rnT, rnS, rnC, rnCs, rnSs, rnM, rnB, rnN, rn, lk, St.over, ded, delL, keepT, menT, menSs, menS, menCs, menC, hasN, resT, SV.cells]; refine wk3 ?_; (focus ((try refine nrmO ?_); (repeat' (first | exact True.intro | refine And.intro ?_ ?_)); all_goals (try (intro (hg_ : _ = true); (try simp only [isNilI, inB, reduceCtorEq, cds] at hg_); (repeat' (first | exact True.intro | refine And.intro ?_ ?_)))); all_goals (first | exact ob1 | exact rfl | skip))))
  rotate_right
  intro i hi_ hiI_
  dsimp only [rnCap, capSVs, Int.toNat_natCast, ro, Nat.reduceAdd, Nat.reduceMul, Nat.zero_add, List.map, putT, app, wrapG, gOb, argT, keys, slotOf, dropped, gAnd, wB, rnT, rnS, rnC, rnCs, rnSs, rnM, rnB, rnN, rn, lk, St.over, ded, delL, keepT, menT, menSs, menS, menCs, menC, hasN, resT, SV.cells]
  repeat' (refine ar_id ?_; first | refine st1 ?_ | (first | ((first | refine ar_region (id := 5) tt_ok (inps := [.elem (Tr.eI (r.getD i 0))]) rfl ?_ ?_ | refine ar_region (id := 6) tt_ok (inps := [.call (c_vir (r.getD i 0))]) rfl ?_ ?_ | refine ar_region tt_ok (inps := []) rfl ?_ ?_); rotate_left; (try dsimp only [c_vir]); (try refine nrm ?_); rotate_right) | refine ret3 ?_ | refine end3 ?_) | (refine ar_cond rfl trivial ?_ ?_ <;> intro hc_ <;> (try simp only [isNilI, inB, reduceCtorEq, cds] at hc_) <;> (try (first | contradiction | (exfalso; omega)))) | refine ar_until (And.intro ?_ (wk3 ?_)))
  all_goals (first | refine ar_id ?_ | (try (focus ((try refine nrmO ?_); (repeat' (first | exact True.intro | refine And.intro ?_ ?_)); all_goals (try (intro (hg_ : _ = true); (try simp only [isNilI, inB, reduceCtorEq, cds] at hg_); (repeat' (first | exact True.intro | refine And.intro ?_ ?_)))); all_goals (first | exact ob1 | exact fn_vir _ | skip)))))
  · refine bf fun h => ?_
    have := h.2 _ (getD_in (l := r) (i := i) (d := 0) (by omega))
    rcases hc_ with hc_ | ⟨h1, h2⟩
    · have := this.1; omega
    · rcases this.2 with h3 | h3
      · rw [h1] at h3; cases h3
      · exact h2 h3
  · exact all_take hiI_ (by omega) hc_
  · exact bt ⟨by omega, all_full hiI_ (by omega)⟩
theorem zip_getD {α β : Type} {l : List α} {m : List β} {i : Nat} {a : α} {b : β} (h1 : i < l.length) (h2 : i < m.length) : (l.zip m).getD i (a, b) = (l.getD i a, m.getD i b) := by
  have := zip_at (getD_at (x := a) h1) (getD_at (x := b) h2)
  rw [List.getD_eq_getElem?_getD, this]
  rfl
def c_FramesOkI (f : GFrames) : CFD := ⟨92, [.agg [ro 33 1 eIntS f.Cells, ro 4 1 Tr.eB f.Used]], [], (TV.sv (.one (.lit (.bool (pFramesOk f))))), [], [], []⟩
theorem fn_FramesOkI (f : GFrames) (hl : f.Cells.length ≤ 1048576) (hu : f.Used.length ≤ 1048576) (hc : ∀ r ∈ f.Cells, r.length ≤ 1048576) : Fn Tryz.prog (c_FramesOkI f) := by
  refine fn_intro tt_ok Tryz.func92 rfl Tryz.call92 Tryz.ntmps92 Tryz.results92 rfl rfl rfl rfl ?_
  intro X ρ0 hb_ hgl_
  dsimp only [c_FramesOkI]
  try refine nrm ?_
  repeat' (refine ar_id ?_; first | refine st1 ?_ | (first | ((first | refine ar_region tt_ok (inps := []) rfl ?_ ?_); rotate_left; (try refine nrm ?_); rotate_right) | refine ret3 ?_ | refine end3 ?_) | (refine ar_cond rfl trivial ?_ ?_ <;> intro hc_ <;> (try simp only [isNilI, inB, reduceCtorEq, cds] at hc_) <;> (try (first | contradiction | (exfalso; omega)))) | refine ar_until (And.intro ?_ (wk3 ?_)))
  all_goals (first | refine ar_id ?_ | (try (focus ((try refine nrmO ?_); (repeat' (first | exact True.intro | refine And.intro ?_ ?_)); all_goals (try (intro (hg_ : _ = true); (try simp only [isNilI, inB, reduceCtorEq, cds] at hg_); (repeat' (first | exact True.intro | refine And.intro ?_ ?_)))); all_goals (first | exact ob1 | skip)))))
  · exact bf fun h => by have := h.1; have := h.2.1; omega
  have hlen := hc_
  refine ar_keep 234881055 (by dsimp only [keepS] <;> exact rfl) ?_
  refine ar_forM (f.Cells.length) (fun i => ∀ p ∈ (f.Cells.zip f.Used).take i, okRow p.2 p.1) (fun i => [(27, (TV.sv (.one (.lit (.int .i64 (i))))))]) (fun i => []) ?_ ?_ ?_
  rotate_left
  · first | trivial | simp
  (dsimp only [rnCap, capSVs, Int.toNat_natCast, ro, Nat.reduceAdd, Nat.reduceMul, Nat.zero_add, List.map, putT, app, wrapG, gOb, argT, keys, slotOf, dropped, gAnd, wB, rnT, rnS, rnC, rnCs, rnSs, rnM, rnB, rnN, rn, lk, St.over, ded, delL, keepT, menT, menSs, menS, menCs, menC, hasN, resT, SV.cells]; refine wk3 ?_; (focus ((try refine nrmO ?_); (repeat' (first | exact True.intro | refine And.intro ?_ ?_)); all_goals (try (intro (hg_ : _ = true); (try simp only [isNilI, inB, reduceCtorEq, cds] at hg_); (repeat' (first | exact True.intro | refine And.intro ?_ ?_)))); all_goals (first | exact ob1 | exact rfl | skip))))
  rotate_right
  intro i hi_ hiI_
  dsimp only [rnCap, capSVs, Int.toNat_natCast, ro, Nat.reduceAdd, Nat.reduceMul, Nat.zero_add, List.map, putT, app, wrapG, gOb, argT, keys, slotOf, dropped, gAnd, wB, rnT, rnS, rnC, rnCs, rnSs, rnM, rnB, rnN, rn, lk, St.over, ded, delL, keepT, menT, menSs, menS, menCs, menC, hasN, resT, SV.cells]
  repeat' (refine ar_id ?_; first | refine st1 ?_ | (first | ((first | refine ar_region (id := 5) tt_ok (inps := [.elem (eIntS (f.Cells.getD i []))]) rfl ?_ ?_ | refine ar_region (id := 6) tt_ok (inps := [.elem (Tr.eB (f.Used.getD i false)), .call (c_frameOk (f.Cells.getD i []) (f.Used.getD i false))]) rfl ?_ ?_ | refine ar_region tt_ok (inps := []) rfl ?_ ?_); rotate_left; (try dsimp only [c_frameOk]); (try refine nrm ?_); rotate_right) | refine ret3 ?_ | refine end3 ?_) | (refine ar_cond rfl trivial ?_ ?_ <;> intro hc_ <;> (try simp only [isNilI, inB, reduceCtorEq, cds] at hc_) <;> (try (first | contradiction | (exfalso; omega)))) | refine ar_until (And.intro ?_ (wk3 ?_)))
  all_goals (first | refine ar_id ?_ | (try (focus ((try refine nrmO ?_); (repeat' (first | exact True.intro | refine And.intro ?_ ?_)); all_goals (try (intro (hg_ : _ = true); (try simp only [isNilI, inB, reduceCtorEq, cds] at hg_); (repeat' (first | exact True.intro | refine And.intro ?_ ?_)))); all_goals (first | exact ob1 | exact fn_frameOk _ _ (hc _ (getD_in (by omega))) | skip)))))
  · refine bf fun h => hc_ ?_
    have := h.2.2 _ (getD_in (l := f.Cells.zip f.Used) (i := i) (d := ([], false)) (by rw [List.length_zip]; omega))
    rwa [zip_getD (by omega) (by omega)] at this
  · exact all_take (d := ([], false)) hiI_ (by rw [List.length_zip]; omega) (by rw [zip_getD (by omega) (by omega)]; exact hc_)
  · exact bt ⟨by omega, by omega, all_full hiI_ (by rw [List.length_zip]; omega)⟩
def c_Copy5I (f : GFrames) : CFD := ⟨131, [.agg [ro 33 1 eIntS f.Cells, ro 4 1 Tr.eB f.Used]], [], .sv (.agg [.hd 0, .hd 1]),
  [(0, some (.row 33 1 (f.Cells.map eIntS))), (1, some (.row 4 1 (f.Used.map Tr.eB)))], [0, 1], []⟩
theorem fn_Copy5I (f : GFrames) (hl : f.Cells.length ≤ 1048576) (hu : f.Used.length ≤ 1048576) (hc : ∀ r ∈ f.Cells, r.length ≤ 1048576) : Fn Tryz.prog (c_Copy5I f) := by
  refine fn_intro tt_ok Tryz.func131 rfl Tryz.call131 Tryz.ntmps131 Tryz.results131 rfl rfl rfl rfl ?_
  intro X ρ0 hb_ hgl_
  dsimp only [c_Copy5I]
  try refine nrm ?_
  repeat' (refine ar_id ?_; first | refine st1 ?_ | (first | ((first | refine ar_region tt_ok (inps := []) rfl ?_ ?_); rotate_left; (try refine nrm ?_); rotate_right) | refine ret3 ?_ | refine end3 ?_) | (refine ar_cond rfl trivial ?_ ?_ <;> intro hc_ <;> (try simp only [isNilI, inB, reduceCtorEq, cds] at hc_) <;> (try (first | contradiction | (exfalso; omega)))) | refine ar_until (And.intro ?_ (wk3 ?_)))
  all_goals (first | refine ar_id ?_ | (try (focus ((try refine nrmO ?_); (repeat' (first | exact True.intro | refine And.intro ?_ ?_)); all_goals (try (intro (hg_ : _ = true); (try simp only [isNilI, inB, reduceCtorEq, cds] at hg_); (repeat' (first | exact True.intro | refine And.intro ?_ ?_)))); all_goals (first | exact ob1 | skip)))))
  refine ar_keep 3103 (by dsimp only [keepS] <;> exact rfl) ?_
  refine ar_forM (f.Cells.length) (fun i => True) (fun i => [(11, (TV.sv (.one (.lit (.int .i64 (i)))))), (3, (TV.sv (.one (.hd 8))))]) (fun i => [(8, some (.row 33 1 ((f.Cells.take i).map eIntS ++ List.replicate (f.Cells.length - i) (dOf [.slice none 0 0]))))]) ?_ ?_ ?_
  rotate_left
  · first | trivial | simp
  (dsimp only [rnCap, capSVs, Int.toNat_natCast, ro, Nat.reduceAdd, Nat.reduceMul, Nat.zero_add, List.map, putT, app, wrapG, gOb, argT, keys, slotOf, dropped, gAnd, wB, rnT, rnS, rnC, rnCs, rnSs, rnM, rnB, rnN, rn, lk, St.over, ded, delL, keepT, menT, menSs, menS, menCs, menC, hasN, resT, SV.cells]; refine wk3 ?_; (focus ((try refine nrmO ?_); (repeat' (first | exact True.intro | refine And.intro ?_ ?_)); all_goals (try (intro (hg_ : _ = true); (try simp only [isNilI, inB, reduceCtorEq, cds] at hg_); (repeat' (first | exact True.intro | refine And.intro ?_ ?_)))); all_goals (first | exact ob1 | exact rfl | skip))))
  rotate_right
  intro i hi_ hiI_
  dsimp only [rnCap, capSVs, Int.toNat_natCast, ro, Nat.reduceAdd, Nat.reduceMul, Nat.zero_add, List.map, putT, app, wrapG, gOb, argT, keys, slotOf, dropped, gAnd, wB, rnT, rnS, rnC, rnCs, rnSs, rnM, rnB, rnN, rn, lk, St.over, ded, delL, keepT, menT, menSs, menS, menCs, menC, hasN, resT, SV.cells]
  repeat' (refine ar_id ?_; first | refine st1 ?_ | (first | ((first | refine ar_region (id := 5) tt_ok (inps := [.elem (eIntS (f.Cells.getD i [])), .elem (dOf [.slice none 0 0])]) rfl ?_ ?_ | refine ar_region tt_ok (inps := []) rfl ?_ ?_); rotate_left; (try refine nrm ?_); rotate_right) | refine ret3 ?_ | refine end3 ?_) | (refine ar_cond rfl trivial ?_ ?_ <;> intro hc_ <;> (try simp only [isNilI, inB, reduceCtorEq, cds] at hc_) <;> (try (first | contradiction | (exfalso; omega)))) | refine ar_until (And.intro ?_ (wk3 ?_)))
  all_goals (first | refine ar_id ?_ | (try (focus ((try refine nrmO ?_); (repeat' (first | exact True.intro | refine And.intro ?_ ?_)); all_goals (try (intro (hg_ : _ = true); (try simp only [isNilI, inB, reduceCtorEq, cds] at hg_); (repeat' (first | exact True.intro | refine And.intro ?_ ?_)))); all_goals (first | exact ob1 | skip)))))
  · have := hc _ (getD_in (l := f.Cells) (i := i) (d := []) (by omega)); simp only [List.length_map]; omega
  · rw [Int.toNat_natCast]; exact fill_at _ _ _ (by omega)
  · have hlen : i < ((f.Cells.take i).map eIntS ++ List.replicate (f.Cells.length - i) (dOf [.slice none 0 0])).length := by rw [fill_len _ _ _ (by omega)]; omega
    refine ar_row 8 (((f.Cells.take i).map eIntS ++ List.replicate (f.Cells.length - i) (dOf [.slice none 0 0])).set i (eIntS (List.replicate (f.Cells.getD i []).length 0))) rfl ((congrArg (List.set _ i) (by show D.row _ _ _ _ _ = D.row _ _ _ _ _; rw [List.map_replicate, List.length_map]; rfl))) ?_
    refine ar_open 8 i 0 90001 90002 (d := eIntS (List.replicate (f.Cells.getD i []).length 0)) ((List.replicate (f.Cells.getD i []).length 0).map eI) rfl ?_ rfl ?_ rfl rfl rfl ?_
    · first | exact map_at (by omega) | assumption | exact set_at (by (try simp only [List.length_map, List.length_set]); omega) | (rw [List.getElem?_set_ne (by omega)]; exact map_at (by omega))
    · exact ⟨rfl, rfl, by intro e he; simp only [List.mem_map] at he; obtain ⟨_, _, rfl⟩ := he; rfl⟩
    intro A_90001 n_90001 c_90001
    try refine nrm ?_
    refine ar_draw (id := 6) (inps := [ .nest (.lit (Value.slice A_90001 n_90001 c_90001) .nil) [(0, 90002)], .elem (eIntS (f.Cells.getD i [])), .elems ((f.Cells.getD i []).map eI)]) tt_ok (by kernel_rfl) rfl rfl (by kernel_rfl) rfl rfl rfl rfl ?_ ?_
    rotate_left
    (try refine nrm ?_)
    refine ar_close 8 i 0 90001 90002 rfl rfl rfl (set_at ?_) rfl rfl rfl ?_
    · (simp only [List.length_map, List.length_set]; omega)
    try refine nrm ?_
    repeat' (refine ar_id ?_; first | refine st1 ?_ | (first | ((first | refine ar_region tt_ok (inps := []) rfl ?_ ?_); rotate_left; (try refine nrm ?_); rotate_right) | refine ret3 ?_ | refine end3 ?_) | (refine ar_cond rfl trivial ?_ ?_ <;> intro hc_ <;> (try simp only [isNilI, inB, reduceCtorEq, cds] at hc_) <;> (try (first | contradiction | (exfalso; omega)))) | refine ar_until (And.intro ?_ (wk3 ?_)))
    all_goals (first | refine ar_id ?_ | (try (focus ((try refine nrmO ?_); (repeat' (first | exact True.intro | refine And.intro ?_ ?_)); all_goals (try (intro (hg_ : _ = true); (try simp only [isNilI, inB, reduceCtorEq, cds] at hg_); (repeat' (first | exact True.intro | refine And.intro ?_ ?_)))); all_goals (first | exact ob1 | skip)))))
    all_goals (try (focus ((try refine nrmO ?_); (repeat' (first | exact True.intro | refine And.intro ?_ ?_)); all_goals (try (intro (hg_ : _ = true); (try simp only [isNilI, inB, reduceCtorEq, cds] at hg_); (repeat' (first | exact True.intro | refine And.intro ?_ ?_)))); all_goals (first | exact ob1 | exact flat_map' (f.Cells.getD i []) (fun x => ⟨rfl, rfl, trivial⟩) | exact (fun d hd => by obtain ⟨_, _, rfl⟩ := List.mem_map.1 hd; exact ⟨rfl, trivial⟩) | skip))))
    · rw [List.set_set, List.set_set]; exact fill_step eIntS f.Cells _ [] (by omega)
    · rw [List.length_map, List.length_map, List.length_replicate]
  · skip
    repeat' (refine ar_id ?_; first | refine st1 ?_ | (first | ((first | refine ar_region (id := 8) tt_ok (inps := [.call (c_CloneB f.Used)]) rfl ?_ ?_ | refine ar_region tt_ok (inps := []) rfl ?_ ?_); rotate_left; (try dsimp only [c_CloneB]); (try refine nrm ?_); rotate_right) | refine ret3 ?_ | refine end3 ?_) | (refine ar_cond rfl trivial ?_ ?_ <;> intro hc_ <;> (try simp only [isNilI, inB, reduceCtorEq, cds] at hc_) <;> (try (first | contradiction | (exfalso; omega)))) | refine ar_until (And.intro ?_ (wk3 ?_)))
    all_goals (first | refine ar_id ?_ | (try (focus ((try refine nrmO ?_); (repeat' (first | exact True.intro | refine And.intro ?_ ?_)); all_goals (try (intro (hg_ : _ = true); (try simp only [isNilI, inB, reduceCtorEq, cds] at hg_); (repeat' (first | exact True.intro | refine And.intro ?_ ?_)))); all_goals (first | exact ob1 | exact fn_CloneB _ hu | skip)))))
    exact fill_end eIntS f.Cells _ (by omega)
end Eng
end Go.Proofs.YtlkkiopjknbomaaGreatDoor
namespace Go.Proofs.YtlkkiopjknbomaaGreatDoor
open Go.RowKit
set_option linter.unusedVariables false
set_option linter.unusedSimpArgs false
set_option maxRecDepth 100000
namespace Eng
open Tr
def c_isMapped (md fr : Int) : CFD := ⟨99, [.agg [(CV.lit (.int .i64 (md))), (CV.lit (.int .i64 (fr)))]], [], (TV.sv (.one (.lit (.bool (md != 0))))), [], [], []⟩
theorem fn_isMapped (md fr : Int) : Fn Tryz.prog (c_isMapped md fr) := by
  refine fn_intro tt_ok Tryz.func99 rfl Tryz.call99 Tryz.ntmps99 Tryz.results99 rfl rfl rfl rfl ?_
  intro X ρ0 hb_ hgl_
  dsimp only [c_isMapped]
  try refine nrm ?_
  repeat' (refine ar_id ?_; first | refine st1 ?_ | (first | ((first | refine ar_region tt_ok (inps := []) rfl ?_ ?_); rotate_left; (try refine nrm ?_); rotate_right) | refine ret3 ?_ | refine end3 ?_) | (refine ar_cond rfl trivial ?_ ?_ <;> intro hc_ <;> (try simp only [isNilI, inB, reduceCtorEq, cds] at hc_) <;> (try (first | contradiction | (exfalso; omega)))) | refine ar_until (And.intro ?_ (wk3 ?_)))
  all_goals (first | refine ar_id ?_ | (try (focus ((try refine nrmO ?_); (repeat' (first | exact True.intro | refine And.intro ?_ ?_)); all_goals (try (intro (hg_ : _ = true); (try simp only [isNilI, inB, reduceCtorEq, cds] at hg_); (repeat' (first | exact True.intro | refine And.intro ?_ ?_)))); all_goals (first | exact ob1 | skip)))))
def okA (md fr : Int) : Prop := (md = 0 ∧ fr = 0) ∨ ((md = 1 ∨ md = 2) ∧ 0 ≤ fr)
instance (md fr : Int) : Decidable (okA md fr) := by unfold okA; infer_instance
def c_entryOk (md fr : Int) : CFD := ⟨134, [.agg [(CV.lit (.int .i64 (md))), (CV.lit (.int .i64 (fr)))]], [], (TV.sv (.one (.lit (.bool (decide (okA md fr)))))), [], [], []⟩
theorem fn_entryOk (md fr : Int) : Fn Tryz.prog (c_entryOk md fr) := by
  refine fn_intro tt_ok Tryz.func134 rfl Tryz.call134 Tryz.ntmps134 Tryz.results134 rfl rfl rfl rfl ?_
  intro X ρ0 hb_ hgl_
  dsimp only [c_entryOk]
  try refine nrm ?_
  repeat' (refine ar_id ?_; first | refine st1 ?_ | (first | ((first | refine ar_region (id := 1) tt_ok (inps := [.call (c_isMapped md fr)]) rfl ?_ ?_ | refine ar_region tt_ok (inps := []) rfl ?_ ?_); rotate_left; (try dsimp only [c_isMapped]); (try refine nrm ?_); rotate_right) | refine ret3 ?_ | refine end3 ?_) | (refine ar_cond rfl trivial ?_ ?_ <;> intro hc_ <;> (try simp only [isNilI, inB, reduceCtorEq, cds] at hc_) <;> (try (first | contradiction | (exfalso; omega)))) | refine ar_until (And.intro ?_ (wk3 ?_)))
  all_goals (first | refine ar_id ?_ | (try (focus ((try refine nrmO ?_); (repeat' (first | exact True.intro | refine And.intro ?_ ?_)); all_goals (try (intro (hg_ : _ = true); (try simp only [isNilI, inB, reduceCtorEq, cds] at hg_); (repeat' (first | exact True.intro | refine And.intro ?_ ?_)))); all_goals (first | exact ob1 | exact fn_isMapped _ _ | skip)))))
  · refine congrArg Value.bool ?_
    subst hc_
    by_cases h : fr = 0
    · subst h; rfl
    · simp [okA, h]
  · refine congrArg Value.bool ?_
    simp only [okA, cond_ite]
    rw [Bool.eq_iff_iff]
    split <;> split <;> simp_all <;> omega
def c_TableOkI (t : GTable) (frames : Int) : CFD := ⟨93, [.agg [ro 45 2 eEntry t.Entries], (SV.one (.lit (.int .i64 (frames))))], [], (TV.sv (.one (.lit (.bool (pTableOk t frames))))), [], [], []⟩
theorem fn_TableOkI (t : GTable) (frames : Int) (hl : t.Entries.length ≤ 1048576) : Fn Tryz.prog (c_TableOkI t frames) := by
  refine fn_intro tt_ok Tryz.func93 rfl Tryz.call93 Tryz.ntmps93 Tryz.results93 rfl rfl rfl rfl ?_
  intro X ρ0 hb_ hgl_
  dsimp only [c_TableOkI]
  try refine nrm ?_
  repeat' (refine ar_id ?_; first | refine st1 ?_ | (first | ((first | refine ar_region tt_ok (inps := []) rfl ?_ ?_); rotate_left; (try refine nrm ?_); rotate_right) | refine ret3 ?_ | refine end3 ?_) | (refine ar_cond rfl trivial ?_ ?_ <;> intro hc_ <;> (try simp only [isNilI, inB, reduceCtorEq, cds] at hc_) <;> (try (first | contradiction | (exfalso; omega)))) | refine ar_until (And.intro ?_ (wk3 ?_)))
  all_goals (first | refine ar_id ?_ | (try (focus ((try refine nrmO ?_); (repeat' (first | exact True.intro | refine And.intro ?_ ?_)); all_goals (try (intro (hg_ : _ = true); (try simp only [isNilI, inB, reduceCtorEq, cds] at hg_); (repeat' (first | exact True.intro | refine And.intro ?_ ?_)))); all_goals (first | exact ob1 | skip)))))
  · exact bf fun h => by have := h.2; omega
  have hlen := hc_
  refine ar_keep 1835095 (by dsimp only [keepS] <;> exact rfl) ?_
  refine ar_forM (t.Entries.length) (fun i => ∀ e ∈ t.Entries.take i, okE frames e) (fun i => [(20, (TV.sv (.one (.lit (.int .i64 (i))))))]) (fun i => []) ?_ ?_ ?_
  rotate_left
  · first | trivial | simp
  (dsimp only [rnCap, capSVs, Int.toNat_natCast, ro, Nat.reduceAdd, Nat.reduceMul, Nat.zero_add, List.map, putT, app, wrapG, gOb, argT, keys, slotOf, dropped, gAnd, wB, rnT, rnS, rnC, rnCs, rnSs, rnM, rnB, rnN, rn, lk, St.over, ded, delL, keepT, menT, menSs, menS, menCs, menC, hasN, resT, SV.cells]; refine wk3 ?_; (focus ((try refine nrmO ?_); (repeat' (first | exact True.intro | refine And.intro ?_ ?_)); all_goals (try (intro (hg_ : _ = true); (try simp only [isNilI, inB, reduceCtorEq, cds] at hg_); (repeat' (first | exact True.intro | refine And.intro ?_ ?_)))); all_goals (first | exact ob1 | exact rfl | skip))))
  rotate_right
  intro i hi_ hiI_
  dsimp only [rnCap, capSVs, Int.toNat_natCast, ro, Nat.reduceAdd, Nat.reduceMul, Nat.zero_add, List.map, putT, app, wrapG, gOb, argT, keys, slotOf, dropped, gAnd, wB, rnT, rnS, rnC, rnCs, rnSs, rnM, rnB, rnN, rn, lk, St.over, ded, delL, keepT, menT, menSs, menS, menCs, menC, hasN, resT, SV.cells]
  repeat' (refine ar_id ?_; first | refine st1 ?_ | (first | ((first | refine ar_region (id := 5) tt_ok (inps := [.elem (eEntry (t.Entries.getD i ⟨0, 0⟩))]) rfl ?_ ?_ | refine ar_region (id := 6) tt_ok (inps := [.call (c_entryOk (t.Entries.getD i ⟨0, 0⟩).Mode (t.Entries.getD i ⟨0, 0⟩).Frame), .call (c_isMapped (t.Entries.getD i ⟨0, 0⟩).Mode (t.Entries.getD i ⟨0, 0⟩).Frame)]) rfl ?_ ?_ | refine ar_region tt_ok (inps := []) rfl ?_ ?_); rotate_left; (try dsimp only [c_entryOk, c_isMapped]); (try refine nrm ?_); rotate_right) | refine ret3 ?_ | refine end3 ?_) | (refine ar_cond rfl trivial ?_ ?_ <;> intro hc_ <;> (try simp only [isNilI, inB, reduceCtorEq, cds] at hc_) <;> (try (first | contradiction | (exfalso; omega)))) | refine ar_until (And.intro ?_ (wk3 ?_)))
  all_goals (first | refine ar_id ?_ | (try (focus ((try refine nrmO ?_); (repeat' (first | exact True.intro | refine And.intro ?_ ?_)); all_goals (try (intro (hg_ : _ = true); (try simp only [isNilI, inB, reduceCtorEq, cds] at hg_); (repeat' (first | exact True.intro | refine And.intro ?_ ?_)))); all_goals (first | exact ob1 | exact fn_entryOk _ _ | exact fn_isMapped _ _ | skip)))))
  · refine bf fun h => ?_
    have := h.1 _ (getD_in (l := t.Entries) (i := i) (d := ⟨0, 0⟩) (by omega))
    unfold okE at this
    unfold okA at hc_
    omega
  · refine all_take (d := ⟨0, 0⟩) hiI_ (by omega) ?_
    unfold okE
    unfold okA at hc_
    omega
  · exact bt ⟨all_full hiI_ (by omega), by omega, by omega⟩
def c_pageExists (t : GTable) (page : Int) : CFD := ⟨135, [.agg [ro 45 2 eEntry t.Entries], (SV.one (.lit (.int .i64 (page))))], [], (TV.sv (.one (.lit (.bool (decide (0 ≤ page ∧ page < (t.Entries.length : Int))))))), [], [], []⟩
theorem fn_pageExists (t : GTable) (page : Int) (hl : t.Entries.length ≤ 1048576) : Fn Tryz.prog (c_pageExists t page) := by
  refine fn_intro tt_ok Tryz.func135 rfl Tryz.call135 Tryz.ntmps135 Tryz.results135 rfl rfl rfl rfl ?_
  intro X ρ0 hb_ hgl_
  dsimp only [c_pageExists]
  try refine nrm ?_
  repeat' (refine ar_id ?_; first | refine st1 ?_ | (first | ((first | refine ar_region tt_ok (inps := []) rfl ?_ ?_); rotate_left; (try refine nrm ?_); rotate_right) | refine ret3 ?_ | refine end3 ?_) | (refine ar_cond rfl trivial ?_ ?_ <;> intro hc_ <;> (try simp only [isNilI, inB, reduceCtorEq, cds] at hc_) <;> (try (first | contradiction | (exfalso; omega)))) | refine ar_until (And.intro ?_ (wk3 ?_)))
  all_goals (first | refine ar_id ?_ | (try (focus ((try refine nrmO ?_); (repeat' (first | exact True.intro | refine And.intro ?_ ?_)); all_goals (try (intro (hg_ : _ = true); (try simp only [isNilI, inB, reduceCtorEq, cds] at hg_); (repeat' (first | exact True.intro | refine And.intro ?_ ?_)))); all_goals (first | exact ob1 | skip)))))
  refine congrArg Value.bool ?_
  rw [cond_ite, Bool.eq_iff_iff]
  split <;> simp_all <;> omega
def c_PageEntryI (t : GTable) (page : Int) : CFD := ⟨98, [.agg [ro 45 2 eEntry t.Entries], (SV.one (.lit (.int .i64 (page))))], [], .sv (.agg [(CV.lit (.int .i64 ((pPageEntry t page).Mode))), (CV.lit (.int .i64 ((pPageEntry t page).Frame)))]), [], [], []⟩
theorem fn_PageEntryI (t : GTable) (page : Int) (hl : t.Entries.length ≤ 1048576) : Fn Tryz.prog (c_PageEntryI t page) := by
  refine fn_intro tt_ok Tryz.func98 rfl Tryz.call98 Tryz.ntmps98 Tryz.results98 rfl rfl rfl rfl ?_
  intro X ρ0 hb_ hgl_
  dsimp only [c_PageEntryI]
  try refine nrm ?_
  repeat' (refine ar_id ?_; first | refine st1 ?_ | (first | ((first | refine ar_region (id := 1) tt_ok (inps := [.call (c_pageExists t page)]) rfl ?_ ?_ | refine ar_region (id := 3) tt_ok (inps := [.elem (eEntry (t.Entries.getD page.toNat ⟨0, 0⟩))]) rfl ?_ ?_ | refine ar_region tt_ok (inps := []) rfl ?_ ?_); rotate_left; (try dsimp only [c_pageExists]); (try refine nrm ?_); rotate_right) | refine ret3 ?_ | refine end3 ?_) | (refine ar_cond rfl trivial ?_ ?_ <;> intro hc_ <;> (try simp only [isNilI, inB, reduceCtorEq, cds] at hc_) <;> (try (first | contradiction | (exfalso; omega)))) | refine ar_until (And.intro ?_ (wk3 ?_)))
  all_goals (first | refine ar_id ?_ | (try (focus ((try refine nrmO ?_); (repeat' (first | exact True.intro | refine And.intro ?_ ?_)); all_goals (try (intro (hg_ : _ = true); (try simp only [isNilI, inB, reduceCtorEq, cds] at hg_); (repeat' (first | exact True.intro | refine And.intro ?_ ?_)))); all_goals (first | exact ob1 | exact fn_pageExists _ _ hl | skip)))))
  all_goals unfold pPageEntry
  · rw [if_neg hc_]
  · rw [if_neg hc_]
  · rw [if_pos hc_]
  · rw [if_pos hc_]
end Eng
end Go.Proofs.YtlkkiopjknbomaaGreatDoor
namespace Go.Proofs.YtlkkiopjknbomaaGreatDoor
open Go.RowKit Go.Extern.Stop Go.Stop Go.Extern
set_option linter.unusedVariables false
namespace Is
theorem typeOf (v : Value) (w : World) : (Extern.ReflectliteType.typeOf #[.iface 203 v]).run Tryz.prog w = .ok (.iface 177 (.agg #[.pointer (some ⟨3, 203, none⟩)])) w := by kernel_rfl
theorem comparable (w : World) : (callFunc 193 #[.agg #[.pointer (some ⟨3, 203, none⟩)]]).run Tryz.prog w = .ok (.value (.bool true)) w := by kernel_rfl
theorem methodComparable (v : Value) (w : World) : (Go.method 341 177 v "Comparable").run Tryz.prog w = .ok (193, v) w := by kernel_rfl
theorem comp : (Tryz.prog.info? 203).map (·.comparable) = some true := by kernel_rfl
theorem size : (Tryz.prog.info? 229).map (·.size) = some 1 := by kernel_rfl
theorem noIs (v : Value) (xT : TypeId) (w : World) : (Instr.typeAssert (.iface 203 v) xT 179 true).run Tryz.prog w = .ok (.tuple #[.nilIface, .bool false]) w := run_typeAssert_lacksB Tryz.underlying179 (by kernel_rfl) (by kernel_rfl) v xT w
theorem noUnwrap (v : Value) (xT : TypeId) (w : World) : (Instr.typeAssert (.iface 203 v) xT 182 true).run Tryz.prog w = .ok (.tuple #[.nilIface, .bool false]) w := run_typeAssert_lacksB Tryz.underlying182 (by kernel_rfl) (by kernel_rfl) v xT w
theorem noUnwraps (v : Value) (xT : TypeId) (w : World) : (Instr.typeAssert (.iface 203 v) xT 184 true).run Tryz.prog w = .ok (.tuple #[.nilIface, .bool false]) w := run_typeAssert_lacksB Tryz.underlying184 (by kernel_rfl) (by kernel_rfl) v xT w
theorem same (a : Addr) (w : World) :
    Calls Tryz.prog 101 #[.iface 203 (.pointer (some a)), .iface 203 (.pointer (some a))] w fun e w' => e = .returned (.bool true) ∧ w' = w := by
  obtain ⟨i, hi, hcmp⟩ := Option.map_eq_some_iff.1 comp
  obtain ⟨j, hj, hjs⟩ := Option.map_eq_some_iff.1 size
  have h8 := @run_callFunc_extern Tryz.prog 136 _ Extern.ReflectliteType.typeOf Tryz.func136 (by kernel_rfl) (by kernel_rfl) (by kernel_rfl) (by kernel_rfl)
  have tT := typeOf
  have cT := comparable
  have mR := methodComparable
  have heq := run_eql_iface_ptr_same (P := Tryz.prog) w a Tryz.underlying92 Tryz.underlying203 hi hcmp hj
  go_enter Tryz.func101, Tryz.ntmps101
  go_wp2
  refine wp_loop_rounds 1 ?_
  rw [rounds_succ]
  go_wp2
  go_ret
  exact ⟨rfl, rfl⟩
theorem other (a b : Addr) (ca cb : Array Value) (ta tb : TypeId) (w : World) (hne : a ≠ b) (ha : w.heap[a.block]? = some (.cells ca ta (0, 0))) (hb : w.heap[b.block]? = some (.cells cb tb (0, 0))) :
    Calls Tryz.prog 101 #[.iface 203 (.pointer (some a)), .iface 203 (.pointer (some b))] w fun e w' => e = .returned (.bool false) ∧ w' = w := by
  obtain ⟨i, hi, hcmp⟩ := Option.map_eq_some_iff.1 comp
  obtain ⟨j, hj, hjs⟩ := Option.map_eq_some_iff.1 size
  have h8 := @run_callFunc_extern Tryz.prog 136 _ Extern.ReflectliteType.typeOf Tryz.func136 (by kernel_rfl) (by kernel_rfl) (by kernel_rfl) (by kernel_rfl)
  have tT := typeOf
  have cT := comparable
  have mR := methodComparable
  have nE := noIs
  have uE := noUnwrap
  have vE := noUnwraps
  have heq := run_eql_iface_ptr_other (P := Tryz.prog) w Tryz.underlying92 Tryz.underlying203 hi hcmp hj (by rw [hjs]; decide) hne ha hb
  go_enter Tryz.func101, Tryz.ntmps101
  go_wp2
  refine wp_loop_rounds 1 ?_
  rw [rounds_succ]
  go_wp2
  go_ret
  exact ⟨rfl, rfl⟩
end Is
end Go.Proofs.YtlkkiopjknbomaaGreatDoor
namespace Go.Proofs.YtlkkiopjknbomaaGreatDoor
open Go.RowKit
set_option linter.unusedVariables false
set_option linter.unusedSimpArgs false
set_option maxRecDepth 100000
namespace Eng
open Tr
/-- for each of n frames: a page is mapped to it -/
def fwL (l : List GEntry) (n : Nat) : List Bool := (List.range n).map fun i : Nat => decide (∃ e ∈ l, e.Mode ≠ 0 ∧ e.Frame = (i : Int))
theorem fwL_nil (n : Nat) : fwL [] n = List.replicate n false := by
  unfold fwL
  rw [List.eq_replicate_iff]
  simp
theorem fwL_len (l : List GEntry) (n : Nat) : (fwL l n).length = n := by simp [fwL]
theorem fwL_snoc (l : List GEntry) (e : GEntry) (n : Nat) : fwL (l ++ [e]) n = if e.Mode ≠ 0 ∧ 0 ≤ e.Frame then (fwL l n).set e.Frame.toNat true else fwL l n := by
  refine List.ext_getElem? fun i => ?_
  have h0 : ∀ (l : List GEntry), (fwL l n)[i]? = if i < n then some (decide (∃ e ∈ l, e.Mode ≠ 0 ∧ e.Frame = (i : Int))) else none := by
    intro l
    unfold fwL
    rw [List.getElem?_map]
    split
    · rw [List.getElem?_range (by assumption)]; rfl
    · rw [List.getElem?_eq_none (by simp; omega)]; rfl
  rw [h0]
  by_cases hi : i < n
  · rw [if_pos hi]
    by_cases he : e.Mode ≠ 0 ∧ 0 ≤ e.Frame
    · rw [if_pos he, List.getElem?_set, fwL_len]
      by_cases hf : e.Frame.toNat = i
      · rw [if_pos hf, if_pos (by omega), decide_eq_true ⟨e, by simp, he.1, by omega⟩]
      · rw [if_neg hf, h0, if_pos hi]
        congr 1
        rw [decide_eq_decide]
        constructor
        · rintro ⟨x, hx, h1, h2⟩
          rw [List.mem_append, List.mem_singleton] at hx
          rcases hx with hx | rfl
          · exact ⟨x, hx, h1, h2⟩
          · omega
        · rintro ⟨x, hx, h1, h2⟩; exact ⟨x, by simp [hx], h1, h2⟩
    · rw [if_neg he, h0, if_pos hi]
      congr 1
      rw [decide_eq_decide]
      constructor
      · rintro ⟨x, hx, h1, h2⟩
        rw [List.mem_append, List.mem_singleton] at hx
        rcases hx with hx | rfl
        · exact ⟨x, hx, h1, h2⟩
        · exact absurd ⟨h1, by omega⟩ he
      · rintro ⟨x, hx, h1, h2⟩; exact ⟨x, by simp [hx], h1, h2⟩
  · rw [if_neg hi]
    split
    · rw [List.getElem?_set, fwL_len, h0]
      split <;> (try split) <;> first | rfl | omega
    · rw [h0, if_neg hi]
def c_fwp (t : GTable) (n : Nat) : CFD := ⟨95, [.agg [ro 45 2 eEntry t.Entries], (SV.one (.lit (.int .i64 ((n : Int)))))], [], .sv (.one (.hd 0)), [(0, some (.row 4 1 ((fwL t.Entries n).map Tr.eB)))], [0], []⟩
theorem fn_fwp (t : GTable) (n : Nat) (hl : t.Entries.length ≤ 1048576) (hn : n ≤ 1048576) (hok : ∀ e ∈ t.Entries, okE n e) : Fn Tryz.prog (c_fwp t n) := by
  refine fn_intro tt_ok Tryz.func95 rfl Tryz.call95 Tryz.ntmps95 Tryz.results95 rfl rfl rfl rfl ?_
  intro X ρ0 hb_ hgl_
  dsimp only [c_fwp]
  try refine nrm ?_
  repeat' (refine ar_id ?_; first | refine st1 ?_ | (first | ((first | refine ar_region tt_ok (inps := []) rfl ?_ ?_); rotate_left; (try refine nrm ?_); rotate_right) | refine ret3 ?_ | refine end3 ?_) | (refine ar_cond rfl trivial ?_ ?_ <;> intro hc_ <;> (try simp only [isNilI, inB, reduceCtorEq, cds] at hc_) <;> (try (first | contradiction | (exfalso; omega)))) | refine ar_until (And.intro ?_ (wk3 ?_)))
  all_goals (first | refine ar_id ?_ | (try (focus ((try refine nrmO ?_); (repeat' (first | exact True.intro | refine And.intro ?_ ?_)); all_goals (try (intro (hg_ : _ = true); (try simp only [isNilI, inB, reduceCtorEq, cds] at hg_); (repeat' (first | exact True.intro | refine And.intro ?_ ?_)))); all_goals (first | exact ob1 | skip)))))
  refine ar_keep 14519 (by dsimp only [keepS] <;> exact rfl) ?_
  refine ar_forM (t.Entries.length) (fun i => True) (fun i => [(13, (TV.sv (.one (.lit (.int .i64 (i)))))), (5, (TV.sv (.one (.hd 9))))]) (fun i => [(9, some (.row 4 1 ((fwL (t.Entries.take i) n).map Tr.eB)))]) ?_ ?_ ?_
  rotate_left
  · first | trivial | simp
  (dsimp only [rnCap, capSVs, Int.toNat_natCast, ro, Nat.reduceAdd, Nat.reduceMul, Nat.zero_add, List.map, putT, app, wrapG, gOb, argT, keys, slotOf, dropped, gAnd, wB, rnT, rnS, rnC, rnCs, rnSs, rnM, rnB, rnN, rn, lk, St.over, ded, delL, keepT, menT, menSs, menS, menCs, menC, hasN, resT, SV.cells]; refine wk3 ?_; (focus ((try refine nrmO ?_); (repeat' (first | exact True.intro | refine And.intro ?_ ?_)); all_goals (try (intro (hg_ : _ = true); (try simp only [isNilI, inB, reduceCtorEq, cds] at hg_); (repeat' (first | exact True.intro | refine And.intro ?_ ?_)))); all_goals (first | exact ob1 | exact rfl | skip))))
  rotate_right
  intro i hi_ hiI_
  dsimp only [rnCap, capSVs, Int.toNat_natCast, ro, Nat.reduceAdd, Nat.reduceMul, Nat.zero_add, List.map, putT, app, wrapG, gOb, argT, keys, slotOf, dropped, gAnd, wB, rnT, rnS, rnC, rnCs, rnSs, rnM, rnB, rnN, rn, lk, St.over, ded, delL, keepT, menT, menSs, menS, menCs, menC, hasN, resT, SV.cells]
  repeat' (refine ar_id ?_; first | refine st1 ?_ | (first | ((first | refine ar_region (id := 4) tt_ok (inps := [.elem (eEntry (t.Entries.getD i ⟨0, 0⟩))]) rfl ?_ ?_ | refine ar_region (id := 5) tt_ok (inps := [.call (c_isMapped (t.Entries.getD i ⟨0, 0⟩).Mode (t.Entries.getD i ⟨0, 0⟩).Frame)]) rfl ?_ ?_ | refine ar_region (id := 6) tt_ok (inps := [.elem (Tr.eB ((fwL (t.Entries.take i) n).getD (t.Entries.getD i ⟨0, 0⟩).Frame.toNat false))]) rfl ?_ ?_ | refine ar_region tt_ok (inps := []) rfl ?_ ?_); rotate_left; (try dsimp only [c_isMapped]); (try refine nrm ?_); rotate_right) | refine ret3 ?_ | refine end3 ?_) | (refine ar_cond rfl trivial ?_ ?_ <;> intro hc_ <;> (try simp only [isNilI, inB, reduceCtorEq, cds] at hc_) <;> (try (first | contradiction | (exfalso; omega)))) | refine ar_until (And.intro ?_ (wk3 ?_)))
  all_goals (first | refine ar_id ?_ | (try (focus ((try refine nrmO ?_); (repeat' (first | exact True.intro | refine And.intro ?_ ?_)); all_goals (try (intro (hg_ : _ = true); (try simp only [isNilI, inB, reduceCtorEq, cds] at hg_); (repeat' (first | exact True.intro | refine And.intro ?_ ?_)))); all_goals (first | exact ob1 | exact fn_isMapped _ _ | skip)))))
  · have := hok _ (getD_in (l := t.Entries) (i := i) (d := ⟨0, 0⟩) (by omega)); unfold okE at this; omega
  · have := hok _ (getD_in (l := t.Entries) (i := i) (d := ⟨0, 0⟩) (by omega)); unfold okE at this; rw [List.length_map, fwL_len]; omega
  · have := hok _ (getD_in (l := t.Entries) (i := i) (d := ⟨0, 0⟩) (by omega)); unfold okE at this; exact map_at (by rw [fwL_len]; omega)
  · have := hok _ (getD_in (l := t.Entries) (i := i) (d := ⟨0, 0⟩) (by omega)); unfold okE at this
    rw [take_getD _ ⟨0, 0⟩ (by omega), fwL_snoc, if_pos ⟨hc_, by omega⟩]
    exact List.map_set.symm
  · rw [take_getD _ ⟨0, 0⟩ (by omega), fwL_snoc, if_neg (fun h => h.1 hc_)]
  · rw [List.take_of_length_le (by omega)]
  · rw [List.take_zero, fwL_nil, List.map_replicate]; rfl
def c_EqualB (a b : List Bool) : CFD := ⟨94, [.one (ro 4 1 Tr.eB a), .one (ro 4 1 Tr.eB b)], [], (TV.sv (.one (.lit (.bool (decide (a = b)))))), [], [], []⟩
theorem fn_EqualB (a b : List Bool) (hl : a.length ≤ 1048576) (hb : b.length ≤ 1048576) : Fn Tryz.prog (c_EqualB a b) := by
  refine fn_intro tt_ok Tryz.func94 rfl Tryz.call94 Tryz.ntmps94 Tryz.results94 rfl rfl rfl rfl ?_
  intro X ρ0 hb_ hgl_
  dsimp only [c_EqualB]
  try refine nrm ?_
  repeat' (refine ar_id ?_; first | refine st1 ?_ | (first | ((first | refine ar_region tt_ok (inps := []) rfl ?_ ?_); rotate_left; (try refine nrm ?_); rotate_right) | refine ret3 ?_ | refine end3 ?_) | (refine ar_cond rfl trivial ?_ ?_ <;> intro hc_ <;> (try simp only [isNilI, inB, reduceCtorEq, cds] at hc_) <;> (try (first | contradiction | (exfalso; omega)))) | refine ar_until (And.intro ?_ (wk3 ?_)))
  all_goals (first | refine ar_id ?_ | (try (focus ((try refine nrmO ?_); (repeat' (first | exact True.intro | refine And.intro ?_ ?_)); all_goals (try (intro (hg_ : _ = true); (try simp only [isNilI, inB, reduceCtorEq, cds] at hg_); (repeat' (first | exact True.intro | refine And.intro ?_ ?_)))); all_goals (first | exact ob1 | skip)))))
  · exact bf fun h => hc_ (by rw [h])
  have hlen := hc_
  refine ar_keep 12339 (by dsimp only [keepS] <;> exact rfl) ?_
  refine ar_forM (a.length) (fun i => a.take i = b.take i) (fun i => [(13, (TV.sv (.one (.lit (.int .i64 (i))))))]) (fun i => []) ?_ ?_ ?_
  rotate_left
  · first | trivial | simp
  (dsimp only [rnCap, capSVs, Int.toNat_natCast, ro, Nat.reduceAdd, Nat.reduceMul, Nat.zero_add, List.map, putT, app, wrapG, gOb, argT, keys, slotOf, dropped, gAnd, wB, rnT, rnS, rnC, rnCs, rnSs, rnM, rnB, rnN, rn, lk, St.over, ded, delL, keepT, menT, menSs, menS, menCs, menC, hasN, resT, SV.cells]; refine wk3 ?_; (focus ((try refine nrmO ?_); (repeat' (first | exact True.intro | refine And.intro ?_ ?_)); all_goals (try (intro (hg_ : _ = true); (try simp only [isNilI, inB, reduceCtorEq, cds] at hg_); (repeat' (first | exact True.intro | refine And.intro ?_ ?_)))); all_goals (first | exact ob1 | exact rfl | skip))))
  rotate_right
  intro i hi_ hiI_
  dsimp only [rnCap, capSVs, Int.toNat_natCast, ro, Nat.reduceAdd, Nat.reduceMul, Nat.zero_add, List.map, putT, app, wrapG, gOb, argT, keys, slotOf, dropped, gAnd, wB, rnT, rnS, rnC, rnCs, rnSs, rnM, rnB, rnN, rn, lk, St.over, ded, delL, keepT, menT, menSs, menS, menCs, menC, hasN, resT, SV.cells]
  repeat' (refine ar_id ?_; first | refine st1 ?_ | (first | ((first | refine ar_draw (id := 6) (inps := [.elem (Tr.eB (a.getD i false)), .elem (Tr.eB (b.getD i false))]) tt_ok (by kernel_rfl) rfl rfl (by kernel_rfl) rfl rfl rfl rfl ?_ ?_ | refine ar_region tt_ok (inps := []) rfl ?_ ?_); rotate_left; (try refine nrm ?_); rotate_right) | refine ret3 ?_ | refine end3 ?_) | (refine ar_cond rfl trivial ?_ ?_ <;> intro hc_ <;> (try simp only [isNilI, inB, reduceCtorEq, cds] at hc_) <;> (try (first | contradiction | (exfalso; omega)))) | refine ar_until (And.intro ?_ (wk3 ?_)))
  all_goals (first | refine ar_id ?_ | (try (focus ((try refine nrmO ?_); (repeat' (first | exact True.intro | refine And.intro ?_ ?_)); all_goals (try (intro (hg_ : _ = true); (try simp only [isNilI, inB, reduceCtorEq, cds] at hg_); (repeat' (first | exact True.intro | refine And.intro ?_ ?_)))); all_goals (first | exact ob1 | skip)))))
  · refine bf fun h => ?_
    subst h
    simp at hc_
  · rw [take_getD a false (by omega), take_getD b false (by omega), hiI_]
    simpa using hc_
  · refine bt ?_
    rw [List.take_of_length_le (by omega), List.take_of_length_le (by omega)] at hiI_
    exact hiI_
theorem onFrame_pos (f : Int) : ∀ (i : Nat) (l : List GEntry), 0 < (onFrame f i l).length ↔ ∃ e ∈ l, e.Mode ≠ 0 ∧ e.Frame = f
  | _, [] => by simp [onFrame]
  | i, e :: l => by
    have ih := onFrame_pos f (i + 1) l
    show 0 < (_ ++ onFrame f (i + 1) l).length ↔ _
    rw [List.length_append]
    by_cases h : e.Mode ≠ 0 ∧ e.Frame = f
    · rw [if_pos h]
      exact ⟨fun _ => ⟨e, by simp, h⟩, fun _ => by simp; omega⟩
    · rw [if_neg h]
      simp only [List.length_nil, Nat.zero_add, ih]
      constructor
      · rintro ⟨x, hx, h1⟩; exact ⟨x, by simp [hx], h1⟩
      · rintro ⟨x, hx, h1⟩
        rw [List.mem_cons] at hx
        rcases hx with rfl | hx
        · exact absurd h1 h
        · exact ⟨x, hx, h1⟩
theorem used_iff (m : GMachine) : usedAre m ↔ m.Frames.Used = fwL m.Table.Entries m.Frames.Used.length := by
  have h0 : ∀ i, i < m.Frames.Used.length → (fwL m.Table.Entries m.Frames.Used.length)[i]? = some (decide (0 < (pPagesOn m.Table (i : Int)).length)) := by
    intro i hi
    unfold fwL pPagesOn
    rw [List.getElem?_map, List.getElem?_range hi, Option.map_some]
    congr 1
    rw [decide_eq_decide, onFrame_pos]
  constructor
  · intro h
    refine List.ext_getElem? fun i => ?_
    rcases Nat.lt_or_ge i m.Frames.Used.length with hi | hi
    · rw [h i hi, h0 i hi]
    · rw [List.getElem?_eq_none hi, List.getElem?_eq_none (by rw [fwL_len]; exact hi)]
  · intro h i hi
    rw [← h0 i hi, ← h]
/-- a machine that can be read: its slices are not too long -/
structure szM (m : GMachine) : Prop where
  c : m.Frames.Cells.length ≤ 1048576
  u : m.Frames.Used.length ≤ 1048576
  r : ∀ r ∈ m.Frames.Cells, r.length ≤ 1048576
  e : m.Table.Entries.length ≤ 1048576
def c_MOkI (m : GMachine) : CFD := ⟨49, [.agg [ro 33 1 eIntS m.Frames.Cells, ro 4 1 Tr.eB m.Frames.Used, ro 45 2 eEntry m.Table.Entries]], [], (TV.sv (.one (.lit (.bool (pMachineOk m))))), [], [], []⟩
theorem fn_MOkI (m : GMachine) (hs : szM m) : Fn Tryz.prog (c_MOkI m) := by
  refine fn_intro tt_ok Tryz.func49 rfl Tryz.call49 Tryz.ntmps49 Tryz.results49 rfl rfl rfl rfl ?_
  intro X ρ0 hb_ hgl_
  dsimp only [c_MOkI]
  try refine nrm ?_
  repeat' (refine ar_id ?_; first | refine st1 ?_ | (first | ((first | refine ar_region (id := 1) tt_ok (inps := [.call (c_FramesOkI m.Frames), .call (c_TableOkI m.Table m.Frames.Used.length)]) rfl ?_ ?_ | refine ar_region tt_ok (inps := []) rfl ?_ ?_); rotate_left; (try dsimp only [c_FramesOkI, c_TableOkI]); (try refine nrm ?_); rotate_right) | refine ret3 ?_ | refine end3 ?_) | (refine ar_cond rfl trivial ?_ ?_ <;> intro hc_ <;> (try simp only [isNilI, inB, reduceCtorEq, cds] at hc_) <;> (try (first | contradiction | (exfalso; omega)))) | refine ar_until (And.intro ?_ (wk3 ?_)))
  all_goals (first | refine ar_id ?_ | (try (focus ((try refine nrmO ?_); (repeat' (first | exact True.intro | refine And.intro ?_ ?_)); all_goals (try (intro (hg_ : _ = true); (try simp only [isNilI, inB, reduceCtorEq, cds] at hg_); (repeat' (first | exact True.intro | refine And.intro ?_ ?_)))); all_goals (first | exact ob1 | exact fn_FramesOkI _ hs.c hs.u hs.r | exact fn_TableOkI _ _ hs.e | skip)))))
  · refine bf fun h => ?_
    rcases hc_ with hc_ | hc_
    · rw [show pFramesOk m.Frames = true from decide_eq_true h.1] at hc_; cases hc_
    · rw [h.1.2.1, h.2.1] at hc_; cases hc_
  have hok := of_decide_eq_true hc_.1
  repeat' (refine ar_id ?_; first | refine st1 ?_ | (first | ((first | refine ar_draw (id := 3) (inps := [.call (c_fwp m.Table m.Frames.Used.length), .call (c_EqualB m.Frames.Used (fwL m.Table.Entries m.Frames.Used.length))]) tt_ok (by kernel_rfl) rfl rfl (by kernel_rfl) rfl rfl rfl rfl ?_ ?_ | refine ar_region tt_ok (inps := []) rfl ?_ ?_); rotate_left; (try dsimp only [c_EqualB, c_fwp]); (try refine nrm ?_); rotate_right) | refine ret3 ?_ | refine end3 ?_) | (refine ar_cond rfl trivial ?_ ?_ <;> intro hc_ <;> (try simp only [isNilI, inB, reduceCtorEq, cds] at hc_) <;> (try (first | contradiction | (exfalso; omega)))) | refine ar_until (And.intro ?_ (wk3 ?_)))
  all_goals (first | refine ar_id ?_ | (try (focus ((try refine nrmO ?_); (repeat' (first | exact True.intro | refine And.intro ?_ ?_)); all_goals (try (intro (hg_ : _ = true); (try simp only [isNilI, inB, reduceCtorEq, cds] at hg_); (repeat' (first | exact True.intro | refine And.intro ?_ ?_)))); all_goals (first | exact ob1 | exact fn_EqualB _ _ hs.u (by rw [fwL_len]; exact hs.u) | exact fn_fwp _ _ hs.e hs.u (of_decide_eq_true hc_.2).1 | skip)))))
  refine congrArg Value.bool ?_
  show _ = decide (okM m)
  rw [decide_eq_decide]
  exact ⟨fun h => ⟨hok, by rw [← hok.2.1]; exact hc_.2, (used_iff m).2 h⟩, fun h => (used_iff m).1 h.2.2⟩
def c_CopyMI (m : GMachine) : CFD := ⟨89, [.agg [ro 33 1 eIntS m.Frames.Cells, ro 4 1 Tr.eB m.Frames.Used, ro 45 2 eEntry m.Table.Entries]], [], .sv (.agg [.hd 0, .hd 1, .hd 2]),
  [(0, some (.row 33 1 (m.Frames.Cells.map eIntS))), (1, some (.row 4 1 (m.Frames.Used.map Tr.eB))), (2, some (.row 45 2 (m.Table.Entries.map eEntry)))], [0, 1, 2], []⟩
theorem fn_CopyMI (m : GMachine) (hs : szM m) : Fn Tryz.prog (c_CopyMI m) := by
  refine fn_intro tt_ok Tryz.func89 rfl Tryz.call89 Tryz.ntmps89 Tryz.results89 rfl rfl rfl rfl ?_
  intro X ρ0 hb_ hgl_
  dsimp only [c_CopyMI]
  try refine nrm ?_
  repeat' (refine ar_id ?_; first | refine st1 ?_ | (first | ((first | refine ar_draw (id := 1) (inps := [.call (c_Copy5I m.Frames), .call (c_CloneE m.Table.Entries)]) tt_ok (by kernel_rfl) rfl rfl (by kernel_rfl) rfl rfl rfl rfl ?_ ?_ | refine ar_region tt_ok (inps := []) rfl ?_ ?_); rotate_left; (try dsimp only [c_CloneE, c_Copy5I]); (try refine nrm ?_); rotate_right) | refine ret3 ?_ | refine end3 ?_) | (refine ar_cond rfl trivial ?_ ?_ <;> intro hc_ <;> (try simp only [isNilI, inB, reduceCtorEq, cds] at hc_) <;> (try (first | contradiction | (exfalso; omega)))) | refine ar_until (And.intro ?_ (wk3 ?_)))
  all_goals (first | refine ar_id ?_ | (try (focus ((try refine nrmO ?_); (repeat' (first | exact True.intro | refine And.intro ?_ ?_)); all_goals (try (intro (hg_ : _ = true); (try simp only [isNilI, inB, reduceCtorEq, cds] at hg_); (repeat' (first | exact True.intro | refine And.intro ?_ ?_)))); all_goals (first | exact ob1 | exact fn_Copy5I _ hs.c hs.u hs.r | exact fn_CloneE _ hs.e | skip)))))
/-- the sentinel of a page that is not mapped -/
def eP (a : Addr) : Value := .iface 203 (.pointer (some a))
def gP (a : Addr) (ty : Nat) : Glb := ⟨0, [eP a], ty, (0, 0)⟩
def canMap (m : GMachine) (page : Int) : Prop := okM m ∧ (pPageEntry m.Table page).Mode ≠ 0
instance (m : GMachine) (page : Int) : Decidable (canMap m page) := by unfold canMap; infer_instance
def mapE (m : GMachine) (page : Int) : GEntry := if canMap m page then pPageEntry m.Table page else ⟨0, 0⟩
def errP (a : Addr) (m : GMachine) (page : Int) : Value := if canMap m page then .nilIface else eP a
def c_mapped (a : Addr) (ty : Nat) (m : GMachine) (page : Int) : CFD := ⟨51, [.agg [ro 33 1 eIntS m.Frames.Cells, ro 4 1 Tr.eB m.Frames.Used, ro 45 2 eEntry m.Table.Entries], (SV.one (.lit (.int .i64 (page))))], [],
  .tup [.agg [(CV.lit (.int .i64 ((mapE m page).Mode))), (CV.lit (.int .i64 ((mapE m page).Frame)))], .one (.lit (errP a m page))], [], [], [gP a ty]⟩
theorem fn_mapped (a : Addr) (ty : Nat) (m : GMachine) (page : Int) (hs : szM m) : Fn Tryz.prog (c_mapped a ty m page) := by
  refine fn_intro tt_ok Tryz.func51 rfl Tryz.call51 Tryz.ntmps51 Tryz.results51 rfl rfl rfl rfl ?_
  intro X ρ0 hb_ hgl_
  dsimp only [c_mapped]
  try refine nrm ?_
  repeat' (refine ar_id ?_; first | refine st1 ?_ | (first | ((first | refine ar_region (id := 1) tt_ok (inps := [.call (c_PageEntryI m.Table page)]) rfl ?_ ?_ | refine ar_region (id := 2) tt_ok (inps := [.call (c_MOkI m), .call (c_isMapped (pPageEntry m.Table page).Mode (pPageEntry m.Table page).Frame)]) rfl ?_ ?_ | refine ar_draw (id := 3) (inps := [.glob (gP a ty) [eP a]]) tt_ok (by kernel_rfl) rfl rfl (by kernel_rfl) rfl rfl rfl rfl ?_ ?_ | refine ar_region tt_ok (inps := []) rfl ?_ ?_); rotate_left; (try dsimp only [c_MOkI, c_PageEntryI, c_isMapped]); (try refine nrm ?_); rotate_right) | refine ret3 ?_ | refine end3 ?_) | (refine ar_cond rfl trivial ?_ ?_ <;> intro hc_ <;> (try simp only [isNilI, inB, reduceCtorEq, cds] at hc_) <;> (try (first | contradiction | (exfalso; omega)))) | refine ar_until (And.intro ?_ (wk3 ?_)))
  all_goals (first | refine ar_id ?_ | (try (focus ((try refine nrmO ?_); (repeat' (first | exact True.intro | refine And.intro ?_ ?_)); all_goals (try (intro (hg_ : _ = true); (try simp only [isNilI, inB, reduceCtorEq, cds] at hg_); (repeat' (first | exact True.intro | refine And.intro ?_ ?_)))); all_goals (first | exact ob1 | exact fn_PageEntryI _ _ hs.e | exact fn_MOkI _ hs | exact fn_isMapped _ _ | exact hgl_.1 | exact rfl | exact one1 rfl | skip)))))
  all_goals (try (
    have hcm : ¬ canMap m page := fun h => by
      rcases hc_ with hc_ | hc_
      · rw [show pMachineOk m = true from decide_eq_true h.1] at hc_; cases hc_
      · exact h.2 hc_
    unfold mapE
    rw [if_neg hcm]; done))
  · exact (if_neg (fun h => by
      rcases hc_ with hc_ | hc_
      · rw [show pMachineOk m = true from decide_eq_true h.1] at hc_; cases hc_
      · exact h.2 hc_)).symm
  all_goals have hcm : canMap m page := ⟨of_decide_eq_true hc_.1, hc_.2⟩
  · unfold mapE; rw [if_pos hcm]
  · unfold mapE; rw [if_pos hcm]
  · exact (if_pos hcm).symm
def pgOf (addr : Int) : Int := if addr < 0 then -1 else addr.tdiv 16
def c_pageOf (addr : Int) : CFD := ⟨58, [(SV.one (.lit (.int .i64 (addr))))], [], (TV.sv (.one (.lit (.int .i64 (pgOf addr))))), [], [], []⟩
theorem fn_pageOf (addr : Int) (h : okI addr) : Fn Tryz.prog (c_pageOf addr) := by
  refine fn_intro tt_ok Tryz.func58 rfl Tryz.call58 Tryz.ntmps58 Tryz.results58 rfl rfl rfl rfl ?_
  intro X ρ0 hb_ hgl_
  dsimp only [c_pageOf]
  try refine nrm ?_
  repeat' (refine ar_id ?_; first | refine st1 ?_ | (first | ((first | refine ar_region tt_ok (inps := []) rfl ?_ ?_); rotate_left; (try refine nrm ?_); rotate_right) | refine ret3 ?_ | refine end3 ?_) | (refine ar_cond rfl trivial ?_ ?_ <;> intro hc_ <;> (try simp only [isNilI, inB, reduceCtorEq, cds] at hc_) <;> (try (first | contradiction | (exfalso; omega)))) | refine ar_until (And.intro ?_ (wk3 ?_)))
  all_goals (first | refine ar_id ?_ | (try (focus ((try refine nrmO ?_); (repeat' (first | exact True.intro | refine And.intro ?_ ?_)); all_goals (try (intro (hg_ : _ = true); (try simp only [isNilI, inB, reduceCtorEq, cds] at hg_); (repeat' (first | exact True.intro | refine And.intro ?_ ?_)))); all_goals (first | exact ob1 | skip)))))
  · unfold pgOf; rw [if_pos hc_]
  · have h1 := h.1; have h2 := h.2; rw [Int.tdiv_eq_ediv_of_nonneg hc_]; exact i64_ok (by omega) (by omega)
  · unfold pgOf; rw [if_neg (by omega)]
/-- the page is mapped; it is not -/
def c_mapY (a : Addr) (ty : Nat) (m : GMachine) (page : Int) : CFD := ⟨51, [.agg [ro 33 1 eIntS m.Frames.Cells, ro 4 1 Tr.eB m.Frames.Used, ro 45 2 eEntry m.Table.Entries], (SV.one (.lit (.int .i64 (page))))], [],
  .tup [.agg [(CV.lit (.int .i64 ((pPageEntry m.Table page).Mode))), (CV.lit (.int .i64 ((pPageEntry m.Table page).Frame)))], .one (.lit .nilIface)], [], [], [gP a ty]⟩
def c_mapN (a : Addr) (ty : Nat) (m : GMachine) (page : Int) : CFD := ⟨51, [.agg [ro 33 1 eIntS m.Frames.Cells, ro 4 1 Tr.eB m.Frames.Used, ro 45 2 eEntry m.Table.Entries], (SV.one (.lit (.int .i64 (page))))], [],
  .tup [.agg [(CV.lit (.int .i64 (0))), (CV.lit (.int .i64 (0)))], .one (.lit (.iface 203 (.pointer (some a))))], [], [], [gP a ty]⟩
theorem fn_mapY (a : Addr) (ty : Nat) (m : GMachine) (page : Int) (hs : szM m) (h : canMap m page) : Fn Tryz.prog (c_mapY a ty m page) := by
  have := fn_mapped a ty m page hs
  unfold c_mapped mapE errP at this
  rw [if_pos h, if_pos h] at this
  exact this
theorem fn_mapN (a : Addr) (ty : Nat) (m : GMachine) (page : Int) (hs : szM m) (h : ¬ canMap m page) : Fn Tryz.prog (c_mapN a ty m page) := by
  have := fn_mapped a ty m page hs
  unfold c_mapped mapE errP at this
  rw [if_neg h, if_neg h] at this
  exact this
theorem canMap_frame {m : GMachine} {page : Int} (h : canMap m page) : 0 ≤ (pPageEntry m.Table page).Frame ∧ (pPageEntry m.Table page).Frame < (m.Frames.Cells.length : Int) ∧ (m.Frames.Cells.getD (pPageEntry m.Table page).Frame.toNat []).length = 16 ∧ m.Frames.Cells[(pPageEntry m.Table page).Frame.toNat]? = some (m.Frames.Cells.getD (pPageEntry m.Table page).Frame.toNat []) := by
  obtain ⟨f, hf, h1, h2, h3, h4⟩ := okM_entry h.1 h.2
  rw [hf, Int.toNat_natCast]
  exact ⟨by omega, by omega, h3, h4⟩
def c_PageTextI (a : Addr) (ty : Nat) (m : GMachine) (page : Int) : CFD := ⟨16, [.agg [ro 33 1 eIntS m.Frames.Cells, ro 4 1 Tr.eB m.Frames.Used, ro 45 2 eEntry m.Table.Entries], (SV.one (.lit (.int .i64 (page))))], [],
  .sv (.one (.hd 0)), [(0, some (.row 3 1 ((pPageText m page).map Tr.eI)))], [0], [gP a ty]⟩
theorem fn_PageTextI (a : Addr) (ty : Nat) (m : GMachine) (page : Int) (hs : szM m) : Fn Tryz.prog (c_PageTextI a ty m page) := by
  by_cases hcm : canMap m page
  · obtain ⟨f0, f1, f2, f3⟩ := canMap_frame hcm
    refine fn_intro tt_ok Tryz.func16 rfl Tryz.call16 Tryz.ntmps16 Tryz.results16 rfl rfl rfl rfl ?_
    intro X ρ0 hb_ hgl_
    dsimp only [c_PageTextI]
    try refine nrm ?_
    repeat' (refine ar_id ?_; first | refine st1 ?_ | (first | ((first | refine ar_region (id := 1) tt_ok (inps := [.call (c_mapY a ty m page)]) rfl ?_ ?_ | refine ar_region (id := 4) tt_ok (inps := [.elem (eIntS (m.Frames.Cells.getD (pPageEntry m.Table page).Frame.toNat [])), .call (c_CloneI (m.Frames.Cells.getD (pPageEntry m.Table page).Frame.toNat []))]) rfl ?_ ?_ | refine ar_region tt_ok (inps := []) rfl ?_ ?_); rotate_left; (try dsimp only [c_CloneI, c_mapY]); (try refine nrm ?_); rotate_right) | refine ret3 ?_ | refine end3 ?_) | (refine ar_cond rfl trivial ?_ ?_ <;> intro hc_ <;> (try simp only [isNilI, inB, reduceCtorEq, cds] at hc_) <;> (try (first | contradiction | (exfalso; omega)))) | refine ar_until (And.intro ?_ (wk3 ?_)))
    all_goals (first | refine ar_id ?_ | (try (focus ((try refine nrmO ?_); (repeat' (first | exact True.intro | refine And.intro ?_ ?_)); all_goals (try (intro (hg_ : _ = true); (try simp only [isNilI, inB, reduceCtorEq, cds] at hg_); (repeat' (first | exact True.intro | refine And.intro ?_ ?_)))); all_goals (first | exact ob1 | exact fn_mapY _ _ _ _ hs hcm | exact hgl_.1 | exact trivial | exact fn_CloneI _ (by omega) | exact elem_map (fun _ => rfl) f3 | skip)))))
    unfold pPageText; rw [if_pos (show okM m ∧ _ from hcm)]
  · skip
    refine fn_intro tt_ok Tryz.func16 rfl Tryz.call16 Tryz.ntmps16 Tryz.results16 rfl rfl rfl rfl ?_
    intro X ρ0 hb_ hgl_
    dsimp only [c_PageTextI]
    try refine nrm ?_
    repeat' (refine ar_id ?_; first | refine st1 ?_ | (first | ((first | refine ar_region (id := 1) tt_ok (inps := [.call (c_mapN a ty m page)]) rfl ?_ ?_ | refine ar_region tt_ok (inps := []) rfl ?_ ?_); rotate_left; (try dsimp only [c_mapN]); (try refine nrm ?_); rotate_right) | refine ret3 ?_ | refine end3 ?_) | (refine ar_cond rfl trivial ?_ ?_ <;> intro hc_ <;> (try simp only [isNilI, inB, reduceCtorEq, cds] at hc_) <;> (try (first | contradiction | (exfalso; omega)))) | refine ar_until (And.intro ?_ (wk3 ?_)))
    all_goals (first | refine ar_id ?_ | (try (focus ((try refine nrmO ?_); (repeat' (first | exact True.intro | refine And.intro ?_ ?_)); all_goals (try (intro (hg_ : _ = true); (try simp only [isNilI, inB, reduceCtorEq, cds] at hg_); (repeat' (first | exact True.intro | refine And.intro ?_ ?_)))); all_goals (first | exact ob1 | exact fn_mapN _ _ _ _ hs hcm | exact hgl_.1 | exact trivial | skip)))))
    refine ar_nil (s := 4) (T := 3) (q := 1) (r := 90000) rfl rfl ?_
    repeat' (refine ar_id ?_; first | refine st1 ?_ | (first | ((first | refine ar_region tt_ok (inps := []) rfl ?_ ?_); rotate_left; (try refine nrm ?_); rotate_right) | refine ret3 ?_ | refine end3 ?_) | (refine ar_cond rfl trivial ?_ ?_ <;> intro hc_ <;> (try simp only [isNilI, inB, reduceCtorEq, cds] at hc_) <;> (try (first | contradiction | (exfalso; omega)))) | refine ar_until (And.intro ?_ (wk3 ?_)))
    all_goals (first | refine ar_id ?_ | (try (focus ((try refine nrmO ?_); (repeat' (first | exact True.intro | refine And.intro ?_ ?_)); all_goals (try (intro (hg_ : _ = true); (try simp only [isNilI, inB, reduceCtorEq, cds] at hg_); (repeat' (first | exact True.intro | refine And.intro ?_ ?_)))); all_goals (first | exact ob1 | skip)))))
    unfold pPageText; rw [if_neg (show ¬ (okM m ∧ _) from hcm)]; rfl
/-- the three sentinels -/
structure Se where
  (aP aW aV : Addr)
  (cP cW cV : List Value)
  (tP tW tV uP uW uV : Nat)
  n1 : aP ≠ aW
  n2 : aP ≠ aV
  n3 : aW ≠ aV
def gW (a : Addr) (ty : Nat) : Glb := ⟨1, [eP a], ty, (0, 0)⟩
def gV (a : Addr) (ty : Nat) : Glb := ⟨2, [eP a], ty, (0, 0)⟩
def Se.gl (s : Se) : List Glb := [gP s.aP s.uP, gW s.aW s.uW, gV s.aV s.uV, ⟨s.aP.block, s.cP, s.tP, (0, 0)⟩, ⟨s.aW.block, s.cW, s.tW, (0, 0)⟩, ⟨s.aV.block, s.cV, s.tV, (0, 0)⟩]
def c_Is (s : Se) (x y : Addr) (b : Bool) : CFD := ⟨101, [.one (.lit (.iface 203 (.pointer (some x)))), .one (.lit (.iface 203 (.pointer (some y))))], [], (TV.sv (.one (.lit (.bool (b))))), [], [], s.gl⟩
theorem fn_IsT (s : Se) (x : Addr) : Fn Tryz.prog (c_Is s x x true) :=
  fn_still (vs := [.iface 203 (.pointer (some x)), .iface 203 (.pointer (some x))]) rfl (fun w _ => Is.same x w) Tryz.call101
theorem fn_IsF (s : Se) (x y : Addr) {cx cy : List Value} {tx ty : Nat} (hne : x ≠ y) (hx : (⟨x.block, cx, tx, (0, 0)⟩ : Glb) ∈ s.gl) (hy : (⟨y.block, cy, ty, (0, 0)⟩ : Glb) ∈ s.gl) : Fn Tryz.prog (c_Is s x y false) :=
  fn_still (vs := [.iface 203 (.pointer (some x)), .iface 203 (.pointer (some y))]) rfl (fun w h => Is.other x y _ _ _ _ w hne (h _ hx) (h _ hy)) Tryz.call101
theorem Se.mP (s : Se) : (⟨s.aP.block, s.cP, s.tP, (0, 0)⟩ : Glb) ∈ s.gl := by simp [Se.gl]
theorem Se.mW (s : Se) : (⟨s.aW.block, s.cW, s.tW, (0, 0)⟩ : Glb) ∈ s.gl := by simp [Se.gl]
theorem Se.mV (s : Se) : (⟨s.aV.block, s.cV, s.tV, (0, 0)⟩ : Glb) ∈ s.gl := by simp [Se.gl]
def c_fault (s : Se) (x : Addr) (k : Int) : CFD := ⟨59, [.one (.lit (.iface 203 (.pointer (some x))))], [], (TV.sv (.one (.lit (.int .i64 (k))))), [], [], s.gl⟩
theorem fn_faultP (s : Se) : Fn Tryz.prog (c_fault s s.aP 1) := by
  refine fn_intro tt_ok Tryz.func59 rfl Tryz.call59 Tryz.ntmps59 Tryz.results59 rfl rfl rfl rfl ?_
  intro X ρ0 hb_ hgl_
  dsimp only [c_fault]
  try refine nrm ?_
  repeat' (refine ar_id ?_; first | refine st1 ?_ | (first | ((first | refine ar_region (id := 1) tt_ok (inps := [.glob (gP s.aP s.uP) [.iface 203 (.pointer (some s.aP))], .call (c_Is s s.aP s.aP true)]) rfl ?_ ?_ | refine ar_region tt_ok (inps := []) rfl ?_ ?_); rotate_left; (try dsimp only [c_Is]); (try refine nrm ?_); rotate_right) | refine ret3 ?_ | refine end3 ?_) | (refine ar_cond rfl trivial ?_ ?_ <;> intro hc_ <;> (try simp only [isNilI, inB, reduceCtorEq, cds] at hc_) <;> (try (first | contradiction | (exfalso; omega)))) | refine ar_until (And.intro ?_ (wk3 ?_)))
  all_goals (first | refine ar_id ?_ | (try (focus ((try refine nrmO ?_); (repeat' (first | exact True.intro | refine And.intro ?_ ?_)); all_goals (try (intro (hg_ : _ = true); (try simp only [isNilI, inB, reduceCtorEq, cds] at hg_); (repeat' (first | exact True.intro | refine And.intro ?_ ?_)))); all_goals (first | exact ob1 | exact hgl_.1 | exact hgl_.2.1 | exact hgl_.2.2.1 | exact hgl_.2.2.2.1 | exact hgl_.2.2.2.2.1 | exact hgl_.2.2.2.2.2.1 | exact hgl_.2.2.2.2.2.2.1 | exact hgl_.2.2.2.2.2.2.2.1 | exact hgl_ | exact rfl | exact one1 rfl | exact fn_IsT _ _ | skip)))))
theorem fn_faultW (s : Se) : Fn Tryz.prog (c_fault s s.aW 2) := by
  refine fn_intro tt_ok Tryz.func59 rfl Tryz.call59 Tryz.ntmps59 Tryz.results59 rfl rfl rfl rfl ?_
  intro X ρ0 hb_ hgl_
  dsimp only [c_fault]
  try refine nrm ?_
  repeat' (refine ar_id ?_; first | refine st1 ?_ | (first | ((first | refine ar_region (id := 1) tt_ok (inps := [.glob (gP s.aP s.uP) [.iface 203 (.pointer (some s.aP))], .call (c_Is s s.aW s.aP false)]) rfl ?_ ?_ | refine ar_region (id := 3) tt_ok (inps := [.glob (gW s.aW s.uW) [.iface 203 (.pointer (some s.aW))], .call (c_Is s s.aW s.aW true)]) rfl ?_ ?_ | refine ar_region tt_ok (inps := []) rfl ?_ ?_); rotate_left; (try dsimp only [c_Is]); (try refine nrm ?_); rotate_right) | refine ret3 ?_ | refine end3 ?_) | (refine ar_cond rfl trivial ?_ ?_ <;> intro hc_ <;> (try simp only [isNilI, inB, reduceCtorEq, cds] at hc_) <;> (try (first | contradiction | (exfalso; omega)))) | refine ar_until (And.intro ?_ (wk3 ?_)))
  all_goals (first | refine ar_id ?_ | (try (focus ((try refine nrmO ?_); (repeat' (first | exact True.intro | refine And.intro ?_ ?_)); all_goals (try (intro (hg_ : _ = true); (try simp only [isNilI, inB, reduceCtorEq, cds] at hg_); (repeat' (first | exact True.intro | refine And.intro ?_ ?_)))); all_goals (first | exact ob1 | exact hgl_.1 | exact hgl_.2.1 | exact hgl_.2.2.1 | exact hgl_.2.2.2.1 | exact hgl_.2.2.2.2.1 | exact hgl_.2.2.2.2.2.1 | exact hgl_.2.2.2.2.2.2.1 | exact hgl_.2.2.2.2.2.2.2.1 | exact hgl_ | exact rfl | exact one1 rfl | exact fn_IsT _ _ | exact fn_IsF _ _ _ (Ne.symm s.n1) s.mW s.mP | skip)))))
theorem fn_faultV (s : Se) : Fn Tryz.prog (c_fault s s.aV 3) := by
  refine fn_intro tt_ok Tryz.func59 rfl Tryz.call59 Tryz.ntmps59 Tryz.results59 rfl rfl rfl rfl ?_
  intro X ρ0 hb_ hgl_
  dsimp only [c_fault]
  try refine nrm ?_
  repeat' (refine ar_id ?_; first | refine st1 ?_ | (first | ((first | refine ar_region (id := 1) tt_ok (inps := [.glob (gP s.aP s.uP) [.iface 203 (.pointer (some s.aP))], .call (c_Is s s.aV s.aP false)]) rfl ?_ ?_ | refine ar_region (id := 3) tt_ok (inps := [.glob (gW s.aW s.uW) [.iface 203 (.pointer (some s.aW))], .call (c_Is s s.aV s.aW false)]) rfl ?_ ?_ | refine ar_region (id := 5) tt_ok (inps := [.glob (gV s.aV s.uV) [.iface 203 (.pointer (some s.aV))], .call (c_Is s s.aV s.aV true)]) rfl ?_ ?_ | refine ar_region tt_ok (inps := []) rfl ?_ ?_); rotate_left; (try dsimp only [c_Is]); (try refine nrm ?_); rotate_right) | refine ret3 ?_ | refine end3 ?_) | (refine ar_cond rfl trivial ?_ ?_ <;> intro hc_ <;> (try simp only [isNilI, inB, reduceCtorEq, cds] at hc_) <;> (try (first | contradiction | (exfalso; omega)))) | refine ar_until (And.intro ?_ (wk3 ?_)))
  all_goals (first | refine ar_id ?_ | (try (focus ((try refine nrmO ?_); (repeat' (first | exact True.intro | refine And.intro ?_ ?_)); all_goals (try (intro (hg_ : _ = true); (try simp only [isNilI, inB, reduceCtorEq, cds] at hg_); (repeat' (first | exact True.intro | refine And.intro ?_ ?_)))); all_goals (first | exact ob1 | exact hgl_.1 | exact hgl_.2.1 | exact hgl_.2.2.1 | exact hgl_.2.2.2.1 | exact hgl_.2.2.2.2.1 | exact hgl_.2.2.2.2.2.1 | exact hgl_.2.2.2.2.2.2.1 | exact hgl_.2.2.2.2.2.2.2.1 | exact hgl_ | exact rfl | exact one1 rfl | exact fn_IsT _ _ | exact fn_IsF _ _ _ (Ne.symm s.n2) s.mV s.mP | exact fn_IsF _ _ _ (Ne.symm s.n3) s.mV s.mW | skip)))))
theorem pgOf_eq {addr : Int} (h : ¬ addr < 0) : pgOf addr = addr / 16 := by unfold pgOf; rw [if_neg h, Int.tdiv_eq_ediv_of_nonneg (by omega)]
theorem entry_eq (m : GMachine) (addr : Int) : (pEntry m addr).1 = pPageEntry m.Table (pgOf addr) := by
  unfold pEntry
  by_cases h : addr < 0
  · rw [if_pos h]
    unfold pgOf pPageEntry
    rw [if_pos h, if_neg (by omega)]
  · rw [if_neg h, pgOf_eq h]
theorem canLoad_iff (m : GMachine) (addr : Int) : canLoad m addr ↔ canMap m (pgOf addr) := by unfold canLoad canMap; rw [entry_eq]
theorem canMap_nonneg {m : GMachine} {addr : Int} (h : canMap m (pgOf addr)) : ¬ addr < 0 := fun hn => by
  have := h.2
  unfold pgOf pPageEntry at this
  rw [if_pos hn, if_neg (by omega)] at this
  exact this rfl
theorem load_val {m : GMachine} {addr : Int} (h : canMap m (pgOf addr)) : pLoad m addr = ((m.Frames.Cells.getD (pPageEntry m.Table (pgOf addr)).Frame.toNat []).getD (addr % 16).toNat 0, 0) := by
  unfold pLoad cellOf
  have hn := canMap_nonneg h
  rw [if_pos ((canLoad_iff m addr).2 h), entry_eq, show (pEntry m addr).2 = addr % 16 by unfold pEntry; rw [if_neg hn]]
def c_LoadI (s : Se) (m : GMachine) (addr : Int) : CFD := ⟨23, [.agg [ro 33 1 eIntS m.Frames.Cells, ro 4 1 Tr.eB m.Frames.Used, ro 45 2 eEntry m.Table.Entries], (SV.one (.lit (.int .i64 (addr))))], [],
  .tup [(SV.one (.lit (.int .i64 ((pLoad m addr).1)))), (SV.one (.lit (.int .i64 ((pLoad m addr).2))))], [], [], s.gl⟩
theorem fn_LoadI (s : Se) (m : GMachine) (addr : Int) (hs : szM m) (ha : okI addr) : Fn Tryz.prog (c_LoadI s m addr) := by
  by_cases hcm : canMap m (pgOf addr)
  · obtain ⟨f0, f1, f2, f3⟩ := canMap_frame hcm
    have hn := canMap_nonneg hcm
    have ht : addr.tmod 16 = addr % 16 := Int.tmod_eq_emod_of_nonneg (by omega)
    refine fn_intro tt_ok Tryz.func23 rfl Tryz.call23 Tryz.ntmps23 Tryz.results23 rfl rfl rfl rfl ?_
    intro X ρ0 hb_ hgl_
    dsimp only [c_LoadI]
    try refine nrm ?_
    repeat' (refine ar_id ?_; first | refine st1 ?_ | (first | ((first | refine ar_draw (id := 1) (inps := [.call (c_pageOf addr), .call (c_mapY s.aP s.uP m (pgOf addr))]) tt_ok (by kernel_rfl) rfl rfl (by kernel_rfl) rfl rfl rfl rfl ?_ ?_ | refine ar_region (id := 4) tt_ok (inps := [.elem (eIntS (m.Frames.Cells.getD (pPageEntry m.Table (pgOf addr)).Frame.toNat [])), .elem (Tr.eI ((m.Frames.Cells.getD (pPageEntry m.Table (pgOf addr)).Frame.toNat []).getD (addr.tmod 16).toNat 0))]) rfl ?_ ?_ | refine ar_region tt_ok (inps := []) rfl ?_ ?_); rotate_left; (try dsimp only [c_mapY, c_pageOf]); (try refine nrm ?_); rotate_right) | refine ret3 ?_ | refine end3 ?_) | (refine ar_cond rfl trivial ?_ ?_ <;> intro hc_ <;> (try simp only [isNilI, inB, reduceCtorEq, cds] at hc_) <;> (try (first | contradiction | (exfalso; omega)))) | refine ar_until (And.intro ?_ (wk3 ?_)))
    all_goals (first | refine ar_id ?_ | (try (focus ((try refine nrmO ?_); (repeat' (first | exact True.intro | refine And.intro ?_ ?_)); all_goals (try (intro (hg_ : _ = true); (try simp only [isNilI, inB, reduceCtorEq, cds] at hg_); (repeat' (first | exact True.intro | refine And.intro ?_ ?_)))); all_goals (first | exact ob1 | exact fn_pageOf _ ha | exact fn_mapY _ _ _ _ hs hcm | exact hgl_.1 | exact hgl_.2.1 | exact hgl_.2.2.1 | exact hgl_.2.2.2.1 | exact hgl_.2.2.2.2.1 | exact hgl_.2.2.2.2.2.1 | exact hgl_.2.2.2.2.2.2.1 | exact hgl_.2.2.2.2.2.2.2.1 | exact hgl_ | exact rfl | exact one1 rfl | exact trivial | exact elem_map (fun _ => rfl) f3 | skip)))))
    all_goals first
      | exact ⟨(m.Frames.Cells.getD (pPageEntry m.Table (pgOf addr)).Frame.toNat []).map eI, rfl, rfl, len_map (E := eI) (k := 1) (fun _ => rfl), map_at (by omega)⟩
      | (rw [load_val hcm, ht]; done)
      | (rw [load_val hcm]; done)
      | trace_state
  · skip
    refine fn_intro tt_ok Tryz.func23 rfl Tryz.call23 Tryz.ntmps23 Tryz.results23 rfl rfl rfl rfl ?_
    intro X ρ0 hb_ hgl_
    dsimp only [c_LoadI]
    try refine nrm ?_
    repeat' (refine ar_id ?_; first | refine st1 ?_ | (first | ((first | refine ar_draw (id := 1) (inps := [.call (c_pageOf addr), .call (c_mapN s.aP s.uP m (pgOf addr))]) tt_ok (by kernel_rfl) rfl rfl (by kernel_rfl) rfl rfl rfl rfl ?_ ?_ | refine ar_region (id := 3) tt_ok (inps := [.call (c_fault s s.aP 1)]) rfl ?_ ?_ | refine ar_region tt_ok (inps := []) rfl ?_ ?_); rotate_left; (try dsimp only [c_fault, c_mapN, c_pageOf]); (try refine nrm ?_); rotate_right) | refine ret3 ?_ | refine end3 ?_) | (refine ar_cond rfl trivial ?_ ?_ <;> intro hc_ <;> (try simp only [isNilI, inB, reduceCtorEq, cds] at hc_) <;> (try (first | contradiction | (exfalso; omega)))) | refine ar_until (And.intro ?_ (wk3 ?_)))
    all_goals (first | refine ar_id ?_ | (try (focus ((try refine nrmO ?_); (repeat' (first | exact True.intro | refine And.intro ?_ ?_)); all_goals (try (intro (hg_ : _ = true); (try simp only [isNilI, inB, reduceCtorEq, cds] at hg_); (repeat' (first | exact True.intro | refine And.intro ?_ ?_)))); all_goals (first | exact ob1 | exact fn_pageOf _ ha | exact fn_mapN _ _ _ _ hs hcm | exact hgl_.1 | exact hgl_.2.1 | exact hgl_.2.2.1 | exact hgl_.2.2.2.1 | exact hgl_.2.2.2.2.1 | exact hgl_.2.2.2.2.2.1 | exact hgl_.2.2.2.2.2.2.1 | exact hgl_.2.2.2.2.2.2.2.1 | exact hgl_ | exact rfl | exact one1 rfl | exact trivial | exact fn_faultP _ | skip)))))
    · unfold pLoad; rw [if_neg (fun h => hcm ((canLoad_iff m addr).1 h))]
    · unfold pLoad; rw [if_neg (fun h => hcm ((canLoad_iff m addr).1 h))]
/-- what stands in the way of a store -/
def c_writ (s : Se) (m : GMachine) (addr v md fr : Int) (e : Value) : CFD := ⟨168, [.agg [ro 33 1 eIntS m.Frames.Cells, ro 4 1 Tr.eB m.Frames.Used, ro 45 2 eEntry m.Table.Entries], (SV.one (.lit (.int .i64 (addr)))), (SV.one (.lit (.int .i64 (v))))], [],
  .tup [.agg [(CV.lit (.int .i64 (md))), (CV.lit (.int .i64 (fr)))], .one (.lit e)], [], [], s.gl⟩
theorem fn_writP (s : Se) (m : GMachine) (addr v : Int) (hs : szM m) (ha : okI addr) (hcm : ¬ canMap m (pgOf addr)) : Fn Tryz.prog (c_writ s m addr v 0 0 (.iface 203 (.pointer (some s.aP)))) := by
  refine fn_intro tt_ok Tryz.func168 rfl Tryz.call168 Tryz.ntmps168 Tryz.results168 rfl rfl rfl rfl ?_
  intro X ρ0 hb_ hgl_
  dsimp only [c_writ]
  try refine nrm ?_
  repeat' (refine ar_id ?_; first | refine st1 ?_ | (first | ((first | refine ar_draw (id := 1) (inps := [.call (c_pageOf addr), .call (c_mapN s.aP s.uP m (pgOf addr))]) tt_ok (by kernel_rfl) rfl rfl (by kernel_rfl) rfl rfl rfl rfl ?_ ?_ | refine ar_region tt_ok (inps := []) rfl ?_ ?_); rotate_left; (try dsimp only [c_mapN, c_pageOf]); (try refine nrm ?_); rotate_right) | refine ret3 ?_ | refine end3 ?_) | (refine ar_cond rfl trivial ?_ ?_ <;> intro hc_ <;> (try simp only [isNilI, inB, reduceCtorEq, cds] at hc_) <;> (try (first | contradiction | (exfalso; omega)))) | refine ar_until (And.intro ?_ (wk3 ?_)))
  all_goals (first | refine ar_id ?_ | (try (focus ((try refine nrmO ?_); (repeat' (first | exact True.intro | refine And.intro ?_ ?_)); all_goals (try (intro (hg_ : _ = true); (try simp only [isNilI, inB, reduceCtorEq, cds] at hg_); (repeat' (first | exact True.intro | refine And.intro ?_ ?_)))); all_goals (first | exact ob1 | exact fn_pageOf _ ha | exact fn_mapN _ _ _ _ hs hcm | exact hgl_.1 | exact hgl_.2.1 | exact hgl_.2.2.1 | exact hgl_.2.2.2.1 | exact hgl_.2.2.2.2.1 | exact hgl_.2.2.2.2.2.1 | exact hgl_.2.2.2.2.2.2.1 | exact hgl_.2.2.2.2.2.2.2.1 | exact hgl_ | exact rfl | exact one1 rfl | exact trivial | skip)))))
theorem fn_writW (s : Se) (m : GMachine) (addr v : Int) (hs : szM m) (ha : okI addr) (hcm : canMap m (pgOf addr)) (h1 : (pPageEntry m.Table (pgOf addr)).Mode = 1) : Fn Tryz.prog (c_writ s m addr v 0 0 (.iface 203 (.pointer (some s.aW)))) := by
  refine fn_intro tt_ok Tryz.func168 rfl Tryz.call168 Tryz.ntmps168 Tryz.results168 rfl rfl rfl rfl ?_
  intro X ρ0 hb_ hgl_
  dsimp only [c_writ]
  try refine nrm ?_
  repeat' (refine ar_id ?_; first | refine st1 ?_ | (first | ((first | refine ar_draw (id := 1) (inps := [.call (c_pageOf addr), .call (c_mapY s.aP s.uP m (pgOf addr))]) tt_ok (by kernel_rfl) rfl rfl (by kernel_rfl) rfl rfl rfl rfl ?_ ?_ | refine ar_draw (id := 5) (inps := [.glob (gW s.aW s.uW) [.iface 203 (.pointer (some s.aW))]]) tt_ok (by kernel_rfl) rfl rfl (by kernel_rfl) rfl rfl rfl rfl ?_ ?_ | refine ar_region tt_ok (inps := []) rfl ?_ ?_); rotate_left; (try dsimp only [c_mapY, c_pageOf]); (try refine nrm ?_); rotate_right) | refine ret3 ?_ | refine end3 ?_) | (refine ar_cond rfl trivial ?_ ?_ <;> intro hc_ <;> (try simp only [isNilI, inB, reduceCtorEq, cds] at hc_) <;> (try (first | contradiction | (exfalso; omega)))) | refine ar_until (And.intro ?_ (wk3 ?_)))
  all_goals (first | refine ar_id ?_ | (try (focus ((try refine nrmO ?_); (repeat' (first | exact True.intro | refine And.intro ?_ ?_)); all_goals (try (intro (hg_ : _ = true); (try simp only [isNilI, inB, reduceCtorEq, cds] at hg_); (repeat' (first | exact True.intro | refine And.intro ?_ ?_)))); all_goals (first | exact ob1 | exact fn_pageOf _ ha | exact fn_mapY _ _ _ _ hs hcm | exact hgl_.1 | exact hgl_.2.1 | exact hgl_.2.2.1 | exact hgl_.2.2.2.1 | exact hgl_.2.2.2.2.1 | exact hgl_.2.2.2.2.2.1 | exact hgl_.2.2.2.2.2.2.1 | exact hgl_.2.2.2.2.2.2.2.1 | exact hgl_ | exact rfl | exact one1 rfl | exact trivial | skip)))))
theorem fn_writV (s : Se) (m : GMachine) (addr v : Int) (hs : szM m) (ha : okI addr) (hcm : canMap m (pgOf addr)) (h1 : (pPageEntry m.Table (pgOf addr)).Mode ≠ 1) (hv : ¬ (0 ≤ v ∧ v ≤ 999)) : Fn Tryz.prog (c_writ s m addr v 0 0 (.iface 203 (.pointer (some s.aV)))) := by
  refine fn_intro tt_ok Tryz.func168 rfl Tryz.call168 Tryz.ntmps168 Tryz.results168 rfl rfl rfl rfl ?_
  intro X ρ0 hb_ hgl_
  dsimp only [c_writ]
  try refine nrm ?_
  repeat' (refine ar_id ?_; first | refine st1 ?_ | (first | ((first | refine ar_draw (id := 1) (inps := [.call (c_pageOf addr), .call (c_mapY s.aP s.uP m (pgOf addr))]) tt_ok (by kernel_rfl) rfl rfl (by kernel_rfl) rfl rfl rfl rfl ?_ ?_ | refine ar_region (id := 6) tt_ok (inps := [.call (c_vir v)]) rfl ?_ ?_ | refine ar_draw (id := 7) (inps := [.glob (gV s.aV s.uV) [.iface 203 (.pointer (some s.aV))]]) tt_ok (by kernel_rfl) rfl rfl (by kernel_rfl) rfl rfl rfl rfl ?_ ?_ | refine ar_region tt_ok (inps := []) rfl ?_ ?_); rotate_left; (try dsimp only [c_mapY, c_pageOf, c_vir]); (try refine nrm ?_); rotate_right) | refine ret3 ?_ | refine end3 ?_) | (refine ar_cond rfl trivial ?_ ?_ <;> intro hc_ <;> (try simp only [isNilI, inB, reduceCtorEq, cds] at hc_) <;> (try (first | contradiction | (exfalso; omega)))) | refine ar_until (And.intro ?_ (wk3 ?_)))
  all_goals (first | refine ar_id ?_ | (try (focus ((try refine nrmO ?_); (repeat' (first | exact True.intro | refine And.intro ?_ ?_)); all_goals (try (intro (hg_ : _ = true); (try simp only [isNilI, inB, reduceCtorEq, cds] at hg_); (repeat' (first | exact True.intro | refine And.intro ?_ ?_)))); all_goals (first | exact ob1 | exact fn_pageOf _ ha | exact fn_mapY _ _ _ _ hs hcm | exact hgl_.1 | exact hgl_.2.1 | exact hgl_.2.2.1 | exact hgl_.2.2.2.1 | exact hgl_.2.2.2.2.1 | exact hgl_.2.2.2.2.2.1 | exact hgl_.2.2.2.2.2.2.1 | exact hgl_.2.2.2.2.2.2.2.1 | exact hgl_ | exact rfl | exact one1 rfl | exact trivial | exact fn_vir _ | skip)))))
theorem fn_writN (s : Se) (m : GMachine) (addr v : Int) (hs : szM m) (ha : okI addr) (hcm : canMap m (pgOf addr)) (h1 : (pPageEntry m.Table (pgOf addr)).Mode ≠ 1) (hv : 0 ≤ v ∧ v ≤ 999) : Fn Tryz.prog (c_writ s m addr v (pPageEntry m.Table (pgOf addr)).Mode (pPageEntry m.Table (pgOf addr)).Frame .nilIface) := by
  refine fn_intro tt_ok Tryz.func168 rfl Tryz.call168 Tryz.ntmps168 Tryz.results168 rfl rfl rfl rfl ?_
  intro X ρ0 hb_ hgl_
  dsimp only [c_writ]
  try refine nrm ?_
  repeat' (refine ar_id ?_; first | refine st1 ?_ | (first | ((first | refine ar_draw (id := 1) (inps := [.call (c_pageOf addr), .call (c_mapY s.aP s.uP m (pgOf addr))]) tt_ok (by kernel_rfl) rfl rfl (by kernel_rfl) rfl rfl rfl rfl ?_ ?_ | refine ar_region (id := 6) tt_ok (inps := [.call (c_vir v)]) rfl ?_ ?_ | refine ar_region tt_ok (inps := []) rfl ?_ ?_); rotate_left; (try dsimp only [c_mapY, c_pageOf, c_vir]); (try refine nrm ?_); rotate_right) | refine ret3 ?_ | refine end3 ?_) | (refine ar_cond rfl trivial ?_ ?_ <;> intro hc_ <;> (try simp only [isNilI, inB, reduceCtorEq, cds] at hc_) <;> (try (first | contradiction | (exfalso; omega)))) | refine ar_until (And.intro ?_ (wk3 ?_)))
  all_goals (first | refine ar_id ?_ | (try (focus ((try refine nrmO ?_); (repeat' (first | exact True.intro | refine And.intro ?_ ?_)); all_goals (try (intro (hg_ : _ = true); (try simp only [isNilI, inB, reduceCtorEq, cds] at hg_); (repeat' (first | exact True.intro | refine And.intro ?_ ?_)))); all_goals (first | exact ob1 | exact fn_pageOf _ ha | exact fn_mapY _ _ _ _ hs hcm | exact hgl_.1 | exact hgl_.2.1 | exact hgl_.2.2.1 | exact hgl_.2.2.2.1 | exact hgl_.2.2.2.2.1 | exact hgl_.2.2.2.2.2.1 | exact hgl_.2.2.2.2.2.2.1 | exact hgl_.2.2.2.2.2.2.2.1 | exact hgl_ | exact rfl | exact one1 rfl | exact trivial | exact fn_vir _ | skip)))))
def c_StoreI (s : Se) (m : GMachine) (addr v : Int) : CFD := ⟨150, [.agg [ro 33 1 eIntS m.Frames.Cells, ro 4 1 Tr.eB m.Frames.Used, ro 45 2 eEntry m.Table.Entries], (SV.one (.lit (.int .i64 (addr)))), (SV.one (.lit (.int .i64 (v))))], [],
  .tup [.agg [.hd 0, .hd 1, .hd 2], (SV.one (.lit (.int .i64 ((pStore m addr v).2))))],
  [(0, some (.row 33 1 ((pStore m addr v).1.Frames.Cells.map eIntS))), (1, some (.row 4 1 ((pStore m addr v).1.Frames.Used.map Tr.eB))), (2, some (.row 45 2 ((pStore m addr v).1.Table.Entries.map eEntry)))], [0, 1, 2], s.gl⟩
theorem fn_StoreI (s : Se) (m : GMachine) (addr v : Int) (hs : szM m) (ha : okI addr) : Fn Tryz.prog (c_StoreI s m addr v) := by
  by_cases hcm : canMap m (pgOf addr)
  · have hcl := (canLoad_iff m addr).2 hcm
    by_cases h1 : (pPageEntry m.Table (pgOf addr)).Mode = 1
    · have hV : pStore m addr v = (m, 2) := by unfold pStore; rw [if_pos hcl, if_pos (by rw [entry_eq]; exact h1)]
      refine fn_intro tt_ok Tryz.func150 rfl Tryz.call150 Tryz.ntmps150 Tryz.results150 rfl rfl rfl rfl ?_
      intro X ρ0 hb_ hgl_
      dsimp only [c_StoreI]
      try refine nrm ?_
      repeat' (refine ar_id ?_; first | refine st1 ?_ | (first | ((first | refine ar_region (id := 1) tt_ok (inps := [.call (c_CopyMI m)]) rfl ?_ ?_ | refine ar_region (id := 2) tt_ok (inps := [.call (c_writ s m addr v 0 0 (.iface 203 (.pointer (some s.aW))))]) rfl ?_ ?_ | refine ar_draw (id := 4) (inps := [.call (c_fault s s.aW 2)]) tt_ok (by kernel_rfl) rfl rfl (by kernel_rfl) rfl rfl rfl rfl ?_ ?_ | refine ar_region tt_ok (inps := []) rfl ?_ ?_); rotate_left; (try dsimp only [c_CopyMI, c_fault, c_writ]); (try refine nrm ?_); rotate_right) | refine ret3 ?_ | refine end3 ?_) | (refine ar_cond rfl trivial ?_ ?_ <;> intro hc_ <;> (try simp only [isNilI, inB, reduceCtorEq, cds] at hc_) <;> (try (first | contradiction | (exfalso; omega)))) | refine ar_until (And.intro ?_ (wk3 ?_)))
      all_goals (first | refine ar_id ?_ | (try (focus ((try refine nrmO ?_); (repeat' (first | exact True.intro | refine And.intro ?_ ?_)); all_goals (try (intro (hg_ : _ = true); (try simp only [isNilI, inB, reduceCtorEq, cds] at hg_); (repeat' (first | exact True.intro | refine And.intro ?_ ?_)))); all_goals (first | exact ob1 | exact fn_CopyMI _ hs | exact fn_writW _ _ _ _ hs ha hcm h1 | exact fn_faultW _ | exact hgl_.1 | exact hgl_.2.1 | exact hgl_.2.2.1 | exact hgl_.2.2.2.1 | exact hgl_.2.2.2.2.1 | exact hgl_.2.2.2.2.2.1 | exact hgl_.2.2.2.2.2.2.1 | exact hgl_.2.2.2.2.2.2.2.1 | exact hgl_ | exact rfl | exact one1 rfl | exact trivial | skip)))))
      all_goals rw [hV]
    · by_cases hv : 0 ≤ v ∧ v ≤ 999
      · have hV : pStore m addr v = (setCellOf m (pEntry m addr).1.Frame (pEntry m addr).2 v, 0) := by unfold pStore; rw [if_pos hcl, if_neg (by rw [entry_eq]; exact h1), if_pos hv]
        obtain ⟨f0, f1, f2, f3⟩ := canMap_frame hcm
        have hn := canMap_nonneg hcm
        have ht : addr.tmod 16 = addr % 16 := Int.tmod_eq_emod_of_nonneg (by omega)
        refine fn_intro tt_ok Tryz.func150 rfl Tryz.call150 Tryz.ntmps150 Tryz.results150 rfl rfl rfl rfl ?_
        intro X ρ0 hb_ hgl_
        dsimp only [c_StoreI]
        try refine nrm ?_
        repeat' (refine ar_id ?_; first | refine st1 ?_ | (first | ((first | refine ar_region (id := 1) tt_ok (inps := [.call (c_CopyMI m)]) rfl ?_ ?_ | refine ar_region (id := 2) tt_ok (inps := [.call (c_writ s m addr v (pPageEntry m.Table (pgOf addr)).Mode (pPageEntry m.Table (pgOf addr)).Frame .nilIface)]) rfl ?_ ?_ | refine ar_region tt_ok (inps := []) rfl ?_ ?_); rotate_left; (try dsimp only [c_CopyMI, c_writ]); (try refine nrm ?_); rotate_right) | refine ret3 ?_ | refine end3 ?_) | (refine ar_cond rfl trivial ?_ ?_ <;> intro hc_ <;> (try simp only [isNilI, inB, reduceCtorEq, cds] at hc_) <;> (try (first | contradiction | (exfalso; omega)))) | refine ar_until (And.intro ?_ (wk3 ?_)))
        all_goals (first | refine ar_id ?_ | (try (focus ((try refine nrmO ?_); (repeat' (first | exact True.intro | refine And.intro ?_ ?_)); all_goals (try (intro (hg_ : _ = true); (try simp only [isNilI, inB, reduceCtorEq, cds] at hg_); (repeat' (first | exact True.intro | refine And.intro ?_ ?_)))); all_goals (first | exact ob1 | exact fn_CopyMI _ hs | exact fn_writN _ _ _ _ hs ha hcm h1 hv | exact hgl_.1 | exact hgl_.2.1 | exact hgl_.2.2.1 | exact hgl_.2.2.2.1 | exact hgl_.2.2.2.2.1 | exact hgl_.2.2.2.2.2.1 | exact hgl_.2.2.2.2.2.2.1 | exact hgl_.2.2.2.2.2.2.2.1 | exact hgl_ | exact rfl | exact one1 rfl | exact trivial | skip)))))
        have h2 : (pEntry m addr).1.Frame = (pPageEntry m.Table (pgOf addr)).Frame := by rw [entry_eq]
        have h3 : (pEntry m addr).2 = addr % 16 := by unfold pEntry; rw [if_neg hn]
        have hset : ∀ (o w : Int), ((m.Frames.Cells.getD (pPageEntry m.Table (pgOf addr)).Frame.toNat []).map eI).set (addr.tmod 16).toNat (dPut (eI o) 0 (D.lit (.int .i64 w) .nil)) = ((m.Frames.Cells.getD (pPageEntry m.Table (pgOf addr)).Frame.toNat []).set (addr.tmod 16).toNat w).map eI := fun o w => List.map_set.symm
        refine ar_open 13000 ((pPageEntry m.Table (pgOf addr)).Frame.toNat) 0 90001 90002 (d := eIntS (m.Frames.Cells.getD (pPageEntry m.Table (pgOf addr)).Frame.toNat [])) ((m.Frames.Cells.getD (pPageEntry m.Table (pgOf addr)).Frame.toNat []).map eI) rfl ?_ rfl ?_ rfl rfl rfl ?_
        · first | exact map_at (by omega) | assumption | exact set_at (by (try simp only [List.length_map, List.length_set]); omega) | (rw [List.getElem?_set_ne (by omega)]; exact map_at (by omega))
        · exact ⟨rfl, rfl, by intro e he; simp only [List.mem_map] at he; obtain ⟨_, _, rfl⟩ := he; rfl⟩
        intro A_90001 n_90001 c_90001
        try refine nrm ?_
        refine ar_region (id := 5) tt_ok (inps := [.nest (.lit (Value.slice A_90001 n_90001 c_90001) .nil) [(0, 90002)], .elem (eI ((m.Frames.Cells.getD (pPageEntry m.Table (pgOf addr)).Frame.toNat []).getD (addr.tmod 16).toNat 0))]) rfl ?_ ?_
        rotate_left
        (try refine nrm ?_)
        refine ar_close 13000 ((pPageEntry m.Table (pgOf addr)).Frame.toNat) 0 90001 90002 rfl rfl rfl (set_at ?_) rfl rfl rfl ?_
        · (simp only [List.length_map, List.length_set]; omega)
        try refine nrm ?_
        repeat' (refine ar_id ?_; first | refine st1 ?_ | (first | ((first | refine ar_region tt_ok (inps := []) rfl ?_ ?_); rotate_left; (try refine nrm ?_); rotate_right) | refine ret3 ?_ | refine end3 ?_) | (refine ar_cond rfl trivial ?_ ?_ <;> intro hc_ <;> (try simp only [isNilI, inB, reduceCtorEq, cds] at hc_) <;> (try (first | contradiction | (exfalso; omega)))) | refine ar_until (And.intro ?_ (wk3 ?_)))
        all_goals (first | refine ar_id ?_ | (try (focus ((try refine nrmO ?_); (repeat' (first | exact True.intro | refine And.intro ?_ ?_)); all_goals (try (intro (hg_ : _ = true); (try simp only [isNilI, inB, reduceCtorEq, cds] at hg_); (repeat' (first | exact True.intro | refine And.intro ?_ ?_)))); all_goals (first | exact ob1 | skip)))))
        all_goals (try (focus ((try refine nrmO ?_); (repeat' (first | exact True.intro | refine And.intro ?_ ?_)); all_goals (try (intro (hg_ : _ = true); (try simp only [isNilI, inB, reduceCtorEq, cds] at hg_); (repeat' (first | exact True.intro | refine And.intro ?_ ?_)))); all_goals (first | exact ob1 | skip))))
        · rw [hV]
        · rw [hV, List.set_set, hset, ht]
          unfold setCellOf
          rw [h2, h3]
          exact List.map_set.symm
        · rw [hV]; rfl
        · rw [hV]; rfl
        all_goals (rw [ht]; simp only [List.length_map]; omega)
      · have hV : pStore m addr v = (m, 3) := by unfold pStore; rw [if_pos hcl, if_neg (by rw [entry_eq]; exact h1), if_neg hv]
        refine fn_intro tt_ok Tryz.func150 rfl Tryz.call150 Tryz.ntmps150 Tryz.results150 rfl rfl rfl rfl ?_
        intro X ρ0 hb_ hgl_
        dsimp only [c_StoreI]
        try refine nrm ?_
        repeat' (refine ar_id ?_; first | refine st1 ?_ | (first | ((first | refine ar_region (id := 1) tt_ok (inps := [.call (c_CopyMI m)]) rfl ?_ ?_ | refine ar_region (id := 2) tt_ok (inps := [.call (c_writ s m addr v 0 0 (.iface 203 (.pointer (some s.aV))))]) rfl ?_ ?_ | refine ar_draw (id := 4) (inps := [.call (c_fault s s.aV 3)]) tt_ok (by kernel_rfl) rfl rfl (by kernel_rfl) rfl rfl rfl rfl ?_ ?_ | refine ar_region tt_ok (inps := []) rfl ?_ ?_); rotate_left; (try dsimp only [c_CopyMI, c_fault, c_writ]); (try refine nrm ?_); rotate_right) | refine ret3 ?_ | refine end3 ?_) | (refine ar_cond rfl trivial ?_ ?_ <;> intro hc_ <;> (try simp only [isNilI, inB, reduceCtorEq, cds] at hc_) <;> (try (first | contradiction | (exfalso; omega)))) | refine ar_until (And.intro ?_ (wk3 ?_)))
        all_goals (first | refine ar_id ?_ | (try (focus ((try refine nrmO ?_); (repeat' (first | exact True.intro | refine And.intro ?_ ?_)); all_goals (try (intro (hg_ : _ = true); (try simp only [isNilI, inB, reduceCtorEq, cds] at hg_); (repeat' (first | exact True.intro | refine And.intro ?_ ?_)))); all_goals (first | exact ob1 | exact fn_CopyMI _ hs | exact fn_writV _ _ _ _ hs ha hcm h1 hv | exact fn_faultV _ | exact hgl_.1 | exact hgl_.2.1 | exact hgl_.2.2.1 | exact hgl_.2.2.2.1 | exact hgl_.2.2.2.2.1 | exact hgl_.2.2.2.2.2.1 | exact hgl_.2.2.2.2.2.2.1 | exact hgl_.2.2.2.2.2.2.2.1 | exact hgl_ | exact rfl | exact one1 rfl | exact trivial | skip)))))
        all_goals rw [hV]
  · have hV : pStore m addr v = (m, 1) := by unfold pStore; rw [if_neg (fun h => hcm ((canLoad_iff m addr).1 h))]
    refine fn_intro tt_ok Tryz.func150 rfl Tryz.call150 Tryz.ntmps150 Tryz.results150 rfl rfl rfl rfl ?_
    intro X ρ0 hb_ hgl_
    dsimp only [c_StoreI]
    try refine nrm ?_
    repeat' (refine ar_id ?_; first | refine st1 ?_ | (first | ((first | refine ar_region (id := 1) tt_ok (inps := [.call (c_CopyMI m)]) rfl ?_ ?_ | refine ar_region (id := 2) tt_ok (inps := [.call (c_writ s m addr v 0 0 (.iface 203 (.pointer (some s.aP))))]) rfl ?_ ?_ | refine ar_draw (id := 4) (inps := [.call (c_fault s s.aP 1)]) tt_ok (by kernel_rfl) rfl rfl (by kernel_rfl) rfl rfl rfl rfl ?_ ?_ | refine ar_region tt_ok (inps := []) rfl ?_ ?_); rotate_left; (try dsimp only [c_CopyMI, c_fault, c_writ]); (try refine nrm ?_); rotate_right) | refine ret3 ?_ | refine end3 ?_) | (refine ar_cond rfl trivial ?_ ?_ <;> intro hc_ <;> (try simp only [isNilI, inB, reduceCtorEq, cds] at hc_) <;> (try (first | contradiction | (exfalso; omega)))) | refine ar_until (And.intro ?_ (wk3 ?_)))
    all_goals (first | refine ar_id ?_ | (try (focus ((try refine nrmO ?_); (repeat' (first | exact True.intro | refine And.intro ?_ ?_)); all_goals (try (intro (hg_ : _ = true); (try simp only [isNilI, inB, reduceCtorEq, cds] at hg_); (repeat' (first | exact True.intro | refine And.intro ?_ ?_)))); all_goals (first | exact ob1 | exact fn_CopyMI _ hs | exact fn_writP _ _ _ _ hs ha hcm | exact fn_faultP _ | exact hgl_.1 | exact hgl_.2.1 | exact hgl_.2.2.1 | exact hgl_.2.2.2.1 | exact hgl_.2.2.2.2.1 | exact hgl_.2.2.2.2.2.1 | exact hgl_.2.2.2.2.2.2.1 | exact hgl_.2.2.2.2.2.2.2.1 | exact hgl_ | exact rfl | exact one1 rfl | exact trivial | skip)))))
    all_goals rw [hV]
end Eng
end Go.Proofs.YtlkkiopjknbomaaGreatDoor
namespace Go.Proofs.YtlkkiopjknbomaaGreatDoor
open Go.RowKit
set_option linter.unusedVariables false
set_option linter.unusedSimpArgs false
set_option maxRecDepth 100000
namespace Eng
open Tr
def c_frameUsed (f : GFrames) (i : Int) : CFD := ⟨174, [.agg [ro 33 1 eIntS f.Cells, ro 4 1 Tr.eB f.Used], (SV.one (.lit (.int .i64 (i))))], [], (TV.sv (.one (.lit (.bool (decide (isUsed f i)))))), [], [], []⟩
theorem fn_frameUsed (f : GFrames) (i : Int) (hl : f.Cells.length ≤ 1048576) (hu : f.Used.length ≤ 1048576) (hc : ∀ r ∈ f.Cells, r.length ≤ 1048576) : Fn Tryz.prog (c_frameUsed f i) := by
  refine fn_intro tt_ok Tryz.func174 rfl Tryz.call174 Tryz.ntmps174 Tryz.results174 rfl rfl rfl rfl ?_
  intro X ρ0 hb_ hgl_
  dsimp only [c_frameUsed]
  try refine nrm ?_
  repeat' (refine ar_id ?_; first | refine st1 ?_ | (first | ((first | refine ar_region (id := 1) tt_ok (inps := [.call (c_FramesOkI f), .elem (Tr.eB (f.Used.getD i.toNat false))]) rfl ?_ ?_ | refine ar_region tt_ok (inps := []) rfl ?_ ?_); rotate_left; (try dsimp only [c_FramesOkI]); (try refine nrm ?_); rotate_right) | refine ret3 ?_ | refine end3 ?_) | (refine ar_cond rfl trivial ?_ ?_ <;> intro hc_ <;> (try simp only [isNilI, inB, reduceCtorEq, cds] at hc_) <;> (try (first | contradiction | (exfalso; omega)))) | refine ar_until (And.intro ?_ (wk3 ?_)))
  all_goals (first | refine ar_id ?_ | (try (focus ((try refine nrmO ?_); (repeat' (first | exact True.intro | refine And.intro ?_ ?_)); all_goals (try (intro (hg_ : _ = true); (try simp only [isNilI, inB, reduceCtorEq, cds] at hg_); (repeat' (first | exact True.intro | refine And.intro ?_ ?_)))); all_goals (first | exact ob1 | exact fn_FramesOkI _ hl hu hc | skip)))))
  refine congrArg Value.bool ?_
  by_cases h1 : okF f
  · by_cases h2 : 0 ≤ i ∧ i < f.Used.length
    · have e : f.Used[i.toNat]? = some (f.Used.getD i.toNat false) := getD_at (by omega)
      simp only [pFramesOk, isUsed, h1, h2, ge_iff_le, e, Option.some.injEq, decide_true, cond_true, true_and, and_self, Bool.decide_eq_true]
    · have e : (bif bif pFramesOk f then decide (i ≥ 0) else false then decide (i < ↑f.Used.length) else false) = false := by
        cases h3 : (bif bif pFramesOk f then decide (i ≥ 0) else false then decide (i < ↑f.Used.length) else false)
        · rfl
        · exfalso
          simp only [Bool.cond_false_right, Bool.and_eq_true, decide_eq_true_eq] at h3
          omega
      rw [e]
      simp only [isUsed, h2, false_and, and_false, decide_false, cond_false]
  · simp only [pFramesOk, isUsed, h1, false_and, decide_false, cond_false]
def c_GiveI (f : GFrames) (i : Int) : CFD := ⟨173, [.agg [ro 33 1 eIntS f.Cells, ro 4 1 Tr.eB f.Used], (SV.one (.lit (.int .i64 (i))))], [], .tup [.agg [.hd 0, .hd 1], (SV.one (.lit (.bool ((pFrameGive f i).2))))], [(0, some (.row 33 1 (((pFrameGive f i).1).Cells.map eIntS))), (1, some (.row 4 1 (((pFrameGive f i).1).Used.map Tr.eB)))], [0, 1], []⟩
theorem fn_GiveI (f : GFrames) (i : Int) (hl : f.Cells.length ≤ 1048576) (hu : f.Used.length ≤ 1048576) (hc : ∀ r ∈ f.Cells, r.length ≤ 1048576) : Fn Tryz.prog (c_GiveI f i) := by
  by_cases hU : isUsed f i
  · have hV : pFrameGive f i = (⟨f.Cells.set i.toNat (List.replicate 16 0), f.Used.set i.toNat false⟩, true) := by unfold pFrameGive; rw [if_pos hU]
    obtain ⟨hok, ⟨h5, h6⟩, h7⟩ := id hU
    have hr : i.toNat < f.Cells.length := by have := hok.2.1; omega
    have hl16 : (f.Cells.getD i.toNat []).length = 16 := by
      have e1 : f.Cells[i.toNat]? = some (f.Cells.getD i.toNat []) := getD_at hr
      exact (hok.2.2 _ (List.mem_of_getElem? (zip_at e1 h7))).1
    refine fn_intro tt_ok Tryz.func173 rfl Tryz.call173 Tryz.ntmps173 Tryz.results173 rfl rfl rfl rfl ?_
    intro X ρ0 hb_ hgl_
    dsimp only [c_GiveI]
    try refine nrm ?_
    rw [hV]
    repeat' (refine ar_id ?_; first | refine st1 ?_ | (first | ((first | refine ar_region (id := 1) tt_ok (inps := [.call (c_Copy5I f)]) rfl ?_ ?_ | refine ar_region (id := 2) tt_ok (inps := [.call (c_frameUsed f i)]) rfl ?_ ?_ | refine ar_region (id := 4) tt_ok (inps := [.elem (Tr.eB (f.Used.getD i.toNat false))]) rfl ?_ ?_ | refine ar_region tt_ok (inps := []) rfl ?_ ?_); rotate_left; (try dsimp only [c_Copy5I, c_frameUsed]); (try refine nrm ?_); rotate_right) | refine ret3 ?_ | refine end3 ?_) | (refine ar_cond rfl trivial ?_ ?_ <;> intro hc_ <;> (try simp only [isNilI, inB, reduceCtorEq, cds] at hc_) <;> (try (first | contradiction | (exfalso; omega)))) | refine ar_until (And.intro ?_ (wk3 ?_)))
    all_goals (first | refine ar_id ?_ | (try (focus ((try refine nrmO ?_); (repeat' (first | exact True.intro | refine And.intro ?_ ?_)); all_goals (try (intro (hg_ : _ = true); (try simp only [isNilI, inB, reduceCtorEq, cds] at hg_); (repeat' (first | exact True.intro | refine And.intro ?_ ?_)))); all_goals (first | exact ob1 | exact fn_Copy5I _ hl hu hc | exact fn_frameUsed _ _ hl hu hc | skip)))))
    rotate_left
    refine ar_open 9000 i.toNat 0 90001 90002 (d := eIntS (f.Cells.getD i.toNat [])) ((f.Cells.getD i.toNat []).map eI) rfl ?_ rfl ?_ rfl rfl rfl ?_
    · first | exact map_at (by omega) | assumption | exact set_at (by (try simp only [List.length_map, List.length_set]); omega) | (rw [List.getElem?_set_ne (by omega)]; exact map_at (by omega))
    · exact ⟨rfl, rfl, by intro e he; simp only [List.mem_map] at he; obtain ⟨_, _, rfl⟩ := he; rfl⟩
    intro A_90001 n_90001 c_90001
    try refine nrm ?_
    refine ar_region (id := 5) tt_ok (inps := [.nest (.lit (Value.slice A_90001 n_90001 c_90001) .nil) [(0, 90002)]]) rfl ?_ ?_
    rotate_left
    (try refine nrm ?_)
    refine ar_close 9000 i.toNat 0 90001 90002 rfl rfl rfl (set_at ?_) rfl rfl rfl ?_
    · (simp only [List.length_map, List.length_set]; omega)
    try refine nrm ?_
    repeat' (refine ar_id ?_; first | refine st1 ?_ | (first | ((first | refine ar_region tt_ok (inps := []) rfl ?_ ?_); rotate_left; (try refine nrm ?_); rotate_right) | refine ret3 ?_ | refine end3 ?_) | (refine ar_cond rfl trivial ?_ ?_ <;> intro hc_ <;> (try simp only [isNilI, inB, reduceCtorEq, cds] at hc_) <;> (try (first | contradiction | (exfalso; omega)))) | refine ar_until (And.intro ?_ (wk3 ?_)))
    all_goals (first | refine ar_id ?_ | (try (focus ((try refine nrmO ?_); (repeat' (first | exact True.intro | refine And.intro ?_ ?_)); all_goals (try (intro (hg_ : _ = true); (try simp only [isNilI, inB, reduceCtorEq, cds] at hg_); (repeat' (first | exact True.intro | refine And.intro ?_ ?_)))); all_goals (first | exact ob1 | skip)))))
    all_goals (try (focus ((try refine nrmO ?_); (repeat' (first | exact True.intro | refine And.intro ?_ ?_)); all_goals (try (intro (hg_ : _ = true); (try simp only [isNilI, inB, reduceCtorEq, cds] at hg_); (repeat' (first | exact True.intro | refine And.intro ?_ ?_)))); all_goals (first | exact ob1 | skip))))
    · rw [List.set_set, List.length_map, hl16]; exact (congrArg (List.set (f.Cells.map eIntS) i.toNat) (show _ = eIntS (List.replicate 16 0) from rfl)).trans List.map_set.symm
    · exact List.map_set.symm
    · intro d hd; obtain ⟨_, _, rfl⟩ := List.mem_map.1 hd; exact ⟨rfl, trivial⟩
  · have hV : pFrameGive f i = (f, false) := by unfold pFrameGive; rw [if_neg hU]
    refine fn_intro tt_ok Tryz.func173 rfl Tryz.call173 Tryz.ntmps173 Tryz.results173 rfl rfl rfl rfl ?_
    intro X ρ0 hb_ hgl_
    dsimp only [c_GiveI]
    try refine nrm ?_
    rw [hV]
    repeat' (refine ar_id ?_; first | refine st1 ?_ | (first | ((first | refine ar_region (id := 1) tt_ok (inps := [.call (c_Copy5I f)]) rfl ?_ ?_ | refine ar_region (id := 2) tt_ok (inps := [.call (c_frameUsed f i)]) rfl ?_ ?_ | refine ar_region tt_ok (inps := []) rfl ?_ ?_); rotate_left; (try dsimp only [c_Copy5I, c_frameUsed]); (try refine nrm ?_); rotate_right) | refine ret3 ?_ | refine end3 ?_) | (refine ar_cond rfl trivial ?_ ?_ <;> intro hc_ <;> (try simp only [isNilI, inB, reduceCtorEq, cds] at hc_) <;> (try (first | contradiction | (exfalso; omega)))) | refine ar_until (And.intro ?_ (wk3 ?_)))
    all_goals (first | refine ar_id ?_ | (try (focus ((try refine nrmO ?_); (repeat' (first | exact True.intro | refine And.intro ?_ ?_)); all_goals (try (intro (hg_ : _ = true); (try simp only [isNilI, inB, reduceCtorEq, cds] at hg_); (repeat' (first | exact True.intro | refine And.intro ?_ ?_)))); all_goals (first | exact ob1 | exact fn_Copy5I _ hl hu hc | exact fn_frameUsed _ _ hl hu hc | skip)))))
end Eng
end Go.Proofs.YtlkkiopjknbomaaGreatDoor
namespace Go.Proofs.YtlkkiopjknbomaaGreatDoor
open Go.RowKit
set_option linter.unusedVariables false
set_option linter.unusedSimpArgs false
set_option maxRecDepth 100000
namespace Eng
open Tr
def c_SetPageI (t : GTable) (page : Int) (e : GEntry) : CFD := ⟨171, [.agg [ro 45 2 eEntry t.Entries], (SV.one (.lit (.int .i64 (page)))), .agg [(CV.lit (.int .i64 (e.Mode))), (CV.lit (.int .i64 (e.Frame)))]], [],
  .tup [.agg [.hd 0], (SV.one (.lit (.bool ((pSetPage t page e).2))))], [(0, some (.row 45 2 (((pSetPage t page e).1).Entries.map eEntry)))], [0], []⟩
theorem fn_SetPageI (t : GTable) (page : Int) (e : GEntry) (hl : t.Entries.length ≤ 1048576) : Fn Tryz.prog (c_SetPageI t page e) := by
  refine fn_intro tt_ok Tryz.func171 rfl Tryz.call171 Tryz.ntmps171 Tryz.results171 rfl rfl rfl rfl ?_
  intro X ρ0 hb_ hgl_
  dsimp only [c_SetPageI]
  try refine nrm ?_
  repeat' (refine ar_id ?_; first | refine st1 ?_ | (first | ((first | refine ar_region (id := 1) tt_ok (inps := [.call (c_CloneE t.Entries)]) rfl ?_ ?_ | refine ar_region (id := 2) tt_ok (inps := [.call (c_pageExists t page), .call (c_entryOk e.Mode e.Frame)]) rfl ?_ ?_ | refine ar_region (id := 4) tt_ok (inps := [.elem (eEntry (t.Entries.getD page.toNat ⟨0, 0⟩))]) rfl ?_ ?_ | refine ar_region tt_ok (inps := []) rfl ?_ ?_); rotate_left; (try dsimp only [c_CloneE, c_entryOk, c_pageExists]); (try refine nrm ?_); rotate_right) | refine ret3 ?_ | refine end3 ?_) | (refine ar_cond rfl trivial ?_ ?_ <;> intro hc_ <;> (try simp only [isNilI, inB, reduceCtorEq, cds] at hc_) <;> (try (first | contradiction | (exfalso; omega)))) | refine ar_until (And.intro ?_ (wk3 ?_)))
  all_goals (first | refine ar_id ?_ | (try (focus ((try refine nrmO ?_); (repeat' (first | exact True.intro | refine And.intro ?_ ?_)); all_goals (try (intro (hg_ : _ = true); (try simp only [isNilI, inB, reduceCtorEq, cds] at hg_); (repeat' (first | exact True.intro | refine And.intro ?_ ?_)))); all_goals (first | exact ob1 | exact fn_CloneE _ hl | exact fn_pageExists _ _ hl | exact fn_entryOk _ _ | skip)))))
  all_goals unfold okA at hc_
  all_goals unfold pSetPage
  · rw [if_neg (by unfold okSet; omega)]
  · rw [if_neg (by unfold okSet; omega)]
  · rw [if_pos (by unfold okSet; omega)]
  · rw [if_pos (by unfold okSet; omega)]; exact List.map_set.symm
def c_PagesOnI (t : GTable) (frame : Int) : CFD := ⟨172, [.agg [ro 45 2 eEntry t.Entries], (SV.one (.lit (.int .i64 (frame))))], [], .sv (.one (.hd 0)), [(0, some (.row 3 1 ((pPagesOn t frame).map eI)))], [0], []⟩
theorem fn_PagesOnI (t : GTable) (frame : Int) (hl : t.Entries.length ≤ 1048576) : Fn Tryz.prog (c_PagesOnI t frame) := by
  refine fn_intro tt_ok Tryz.func172 rfl Tryz.call172 Tryz.ntmps172 Tryz.results172 rfl rfl rfl rfl ?_
  intro X ρ0 hb_ hgl_
  dsimp only [c_PagesOnI]
  try refine nrm ?_
  repeat' (refine ar_id ?_; first | refine st1 ?_ | (first | ((first | refine ar_region tt_ok (inps := []) rfl ?_ ?_); rotate_left; (try refine nrm ?_); rotate_right) | refine ret3 ?_ | refine end3 ?_) | (refine ar_cond rfl trivial ?_ ?_ <;> intro hc_ <;> (try simp only [isNilI, inB, reduceCtorEq, cds] at hc_) <;> (try (first | contradiction | (exfalso; omega)))) | refine ar_until (And.intro ?_ (wk3 ?_)))
  all_goals (first | refine ar_id ?_ | (try (focus ((try refine nrmO ?_); (repeat' (first | exact True.intro | refine And.intro ?_ ?_)); all_goals (try (intro (hg_ : _ = true); (try simp only [isNilI, inB, reduceCtorEq, cds] at hg_); (repeat' (first | exact True.intro | refine And.intro ?_ ?_)))); all_goals (first | exact ob1 | skip)))))
  refine ar_nil (s := 5) (T := 3) (q := 1) (r := 90000) rfl rfl ?_
  refine ar_keep 3831 (by dsimp only [keepS] <;> exact rfl) ?_
  refine ar_forM (t.Entries.length) (fun i => True) (fun i => [(11, (TV.sv (.one (.lit (.int .i64 (i)))))), (5, (TV.sv (.one (.hd 90000))))]) (fun i => [(90000, some (.row 3 1 ((onFrame frame 0 (t.Entries.take i)).map eI)))]) ?_ ?_ ?_
  rotate_left
  · first | trivial | simp
  (dsimp only [rnCap, capSVs, Int.toNat_natCast, ro, Nat.reduceAdd, Nat.reduceMul, Nat.zero_add, List.map, putT, app, wrapG, gOb, argT, keys, slotOf, dropped, gAnd, wB, rnT, rnS, rnC, rnCs, rnSs, rnM, rnB, rnN, rn, lk, St.over, ded, delL, keepT, menT, menSs, menS, menCs, menC, hasN, resT, SV.cells]; refine wk3 ?_; (focus ((try refine nrmO ?_); (repeat' (first | exact True.intro | refine And.intro ?_ ?_)); all_goals (try (intro (hg_ : _ = true); (try simp only [isNilI, inB, reduceCtorEq, cds] at hg_); (repeat' (first | exact True.intro | refine And.intro ?_ ?_)))); all_goals (first | exact ob1 | exact rfl | skip))))
  rotate_right
  intro i hi_ hiI_
  dsimp only [rnCap, capSVs, Int.toNat_natCast, ro, Nat.reduceAdd, Nat.reduceMul, Nat.zero_add, List.map, putT, app, wrapG, gOb, argT, keys, slotOf, dropped, gAnd, wB, rnT, rnS, rnC, rnCs, rnSs, rnM, rnB, rnN, rn, lk, St.over, ded, delL, keepT, menT, menSs, menS, menCs, menC, hasN, resT, SV.cells]
  repeat' (refine ar_id ?_; first | refine st1 ?_ | (first | ((first | refine ar_region (id := 4) tt_ok (inps := [.elem (eEntry (t.Entries.getD i ⟨0, 0⟩))]) rfl ?_ ?_ | refine ar_region (id := 5) tt_ok (inps := [.call (c_isMapped (t.Entries.getD i ⟨0, 0⟩).Mode (t.Entries.getD i ⟨0, 0⟩).Frame)]) rfl ?_ ?_ | refine ar_region tt_ok (inps := []) rfl ?_ ?_); rotate_left; (try dsimp only [c_isMapped]); (try refine nrm ?_); rotate_right) | refine ret3 ?_ | refine end3 ?_) | (refine ar_cond rfl trivial ?_ ?_ <;> intro hc_ <;> (try simp only [isNilI, inB, reduceCtorEq, cds] at hc_) <;> (try (first | contradiction | (exfalso; omega)))) | refine ar_until (And.intro ?_ (wk3 ?_)))
  all_goals (first | refine ar_id ?_ | (try (focus ((try refine nrmO ?_); (repeat' (first | exact True.intro | refine And.intro ?_ ?_)); all_goals (try (intro (hg_ : _ = true); (try simp only [isNilI, inB, reduceCtorEq, cds] at hg_); (repeat' (first | exact True.intro | refine And.intro ?_ ?_)))); all_goals (first | exact ob1 | exact fn_isMapped _ _ | skip)))))
  · have := onFrame_len frame 0 (t.Entries.take i)
    simp only [List.length_map, List.length_take, List.length_cons, List.length_nil] at *
    omega
  · rw [onFrame_take _ _ _ _ (getD_at (x := ⟨0, 0⟩) (by omega)), if_pos hc_, List.map_append, app_eq]; rfl
  · rw [onFrame_take _ _ _ _ (getD_at (x := ⟨0, 0⟩) (by omega)), if_neg (by omega), List.append_nil]
  · rw [List.take_of_length_le (by omega)]; rfl
end Eng
end Go.Proofs.YtlkkiopjknbomaaGreatDoor
namespace Go.Proofs.YtlkkiopjknbomaaGreatDoor
open Go.RowKit
set_option linter.unusedVariables false
set_option linter.unusedSimpArgs false
set_option maxRecDepth 100000
namespace Eng
open Tr
/-- a kernel that can be read -/
structure szK (k : GKernel) : Prop where
  m : szM k.Machine
  r : k.Refuse.length ≤ 1048576
/-- where a number stands first -/
def idxI (x : Int) : Nat → List Int → Int
  | _, [] => -1
  | i, y :: l => if y = x then (i : Int) else idxI x (i + 1) l
theorem idxI_skip (x : Int) : ∀ (i : Nat) (a b : List Int), (∀ u ∈ a, u ≠ x) → idxI x i (a ++ b) = idxI x (i + a.length) b
  | _, [], _, _ => rfl
  | i, u :: a, b, h => by
    show (if u = x then _ else idxI x (i + 1) (a ++ b)) = _
    rw [if_neg (h u (by simp)), idxI_skip x (i + 1) a b (fun v hv => h v (by simp [hv])), List.length_cons, show i + 1 + a.length = i + (a.length + 1) by omega]
theorem idxI_hit (x : Int) (l : List Int) (i : Nat) (h : l[i]? = some x) (ha : ∀ u ∈ l.take i, u ≠ x) : idxI x 0 l = (i : Int) := by
  have hi : i < l.length := (List.getElem?_eq_some_iff.1 h).1
  have e : l = l.take i ++ (x :: l.drop (i + 1)) := by
    have h1 : l.drop i = x :: l.drop (i + 1) := by
      rw [List.drop_eq_getElem_cons hi]
      rw [List.getElem?_eq_getElem hi] at h
      rw [Option.some.inj h]
    rw [← h1, List.take_append_drop]
  rw [e, idxI_skip x 0 _ _ ha, List.length_take, Nat.min_eq_left (by omega), Nat.zero_add]
  exact if_pos rfl
theorem idxI_none (x : Int) (l : List Int) (ha : ∀ u ∈ l, u ≠ x) : idxI x 0 l = -1 := by
  have := idxI_skip x 0 l [] ha
  rw [List.append_nil] at this
  rw [this]; rfl
theorem idxI_lt (x : Int) : ∀ (i : Nat) (l : List Int), (idxI x i l = -1 ∧ x ∉ l) ∨ ∃ j : Nat, j < l.length ∧ idxI x i l = ((i + j : Nat) : Int) ∧ x ∈ l
  | _, [] => .inl ⟨rfl, by simp⟩
  | i, u :: l => by
    unfold idxI
    by_cases hu : u = x
    · exact .inr ⟨0, by simp, by rw [if_pos hu]; rfl, by simp [hu]⟩
    · rw [if_neg hu]
      rcases idxI_lt x (i + 1) l with ⟨h1, h2⟩ | ⟨j, h1, h2, h3⟩
      · exact .inl ⟨h1, by simp [h2, Ne.symm hu]⟩
      · exact .inr ⟨j + 1, by simp; omega, by rw [h2]; congr 1; omega, by simp [h3]⟩
def c_IndexI (l : List Int) (x : Int) : CFD := ⟨205, [.one (ro 3 1 Tr.eI l), (SV.one (.lit (.int .i64 (x))))], [], (TV.sv (.one (.lit (.int .i64 (idxI x 0 l))))), [], [], []⟩
theorem fn_IndexI (l : List Int) (x : Int) (hl : l.length ≤ 1048576) : Fn Tryz.prog (c_IndexI l x) := by
  refine fn_intro tt_ok Tryz.func205 rfl Tryz.call205 Tryz.ntmps205 Tryz.results205 rfl rfl rfl rfl ?_
  intro X ρ0 hb_ hgl_
  dsimp only [c_IndexI]
  try refine nrm ?_
  repeat' (refine ar_id ?_; first | refine st1 ?_ | (first | ((first | refine ar_region tt_ok (inps := []) rfl ?_ ?_); rotate_left; (try refine nrm ?_); rotate_right) | refine ret3 ?_ | refine end3 ?_) | (refine ar_cond rfl trivial ?_ ?_ <;> intro hc_ <;> (try simp only [isNilI, inB, reduceCtorEq, cds] at hc_) <;> (try (first | contradiction | (exfalso; omega)))) | refine ar_until (And.intro ?_ (wk3 ?_)))
  all_goals (first | refine ar_id ?_ | (try (focus ((try refine nrmO ?_); (repeat' (first | exact True.intro | refine And.intro ?_ ?_)); all_goals (try (intro (hg_ : _ = true); (try simp only [isNilI, inB, reduceCtorEq, cds] at hg_); (repeat' (first | exact True.intro | refine And.intro ?_ ?_)))); all_goals (first | exact ob1 | skip)))))
  refine ar_keep 435 (by dsimp only [keepS] <;> exact rfl) ?_
  refine ar_forM (l.length) (fun i => ∀ u ∈ l.take i, u ≠ x) (fun i => [(8, (TV.sv (.one (.lit (.int .i64 (i))))))]) (fun i => []) ?_ ?_ ?_
  rotate_left
  · first | trivial | simp
  (dsimp only [rnCap, capSVs, Int.toNat_natCast, ro, Nat.reduceAdd, Nat.reduceMul, Nat.zero_add, List.map, putT, app, wrapG, gOb, argT, keys, slotOf, dropped, gAnd, wB, rnT, rnS, rnC, rnCs, rnSs, rnM, rnB, rnN, rn, lk, St.over, ded, delL, keepT, menT, menSs, menS, menCs, menC, hasN, resT, SV.cells]; refine wk3 ?_; (focus ((try refine nrmO ?_); (repeat' (first | exact True.intro | refine And.intro ?_ ?_)); all_goals (try (intro (hg_ : _ = true); (try simp only [isNilI, inB, reduceCtorEq, cds] at hg_); (repeat' (first | exact True.intro | refine And.intro ?_ ?_)))); all_goals (first | exact ob1 | exact rfl | skip))))
  rotate_right
  intro i hi_ hiI_
  dsimp only [rnCap, capSVs, Int.toNat_natCast, ro, Nat.reduceAdd, Nat.reduceMul, Nat.zero_add, List.map, putT, app, wrapG, gOb, argT, keys, slotOf, dropped, gAnd, wB, rnT, rnS, rnC, rnCs, rnSs, rnM, rnB, rnN, rn, lk, St.over, ded, delL, keepT, menT, menSs, menS, menCs, menC, hasN, resT, SV.cells]
  repeat' (refine ar_id ?_; first | refine st1 ?_ | (first | ((first | refine ar_region (id := 4) tt_ok (inps := [.elem (Tr.eI (l.getD i 0))]) rfl ?_ ?_ | refine ar_region tt_ok (inps := []) rfl ?_ ?_); rotate_left; (try refine nrm ?_); rotate_right) | refine ret3 ?_ | refine end3 ?_) | (refine ar_cond rfl trivial ?_ ?_ <;> intro hc_ <;> (try simp only [isNilI, inB, reduceCtorEq, cds] at hc_) <;> (try (first | contradiction | (exfalso; omega)))) | refine ar_until (And.intro ?_ (wk3 ?_)))
  all_goals (first | refine ar_id ?_ | (try (focus ((try refine nrmO ?_); (repeat' (first | exact True.intro | refine And.intro ?_ ?_)); all_goals (try (intro (hg_ : _ = true); (try simp only [isNilI, inB, reduceCtorEq, cds] at hg_); (repeat' (first | exact True.intro | refine And.intro ?_ ?_)))); all_goals (first | exact ob1 | skip)))))
  · exact congrArg (Value.int .i64) (idxI_hit x l i (by rw [getD_at (x := 0) (by omega)]; exact congrArg some (by omega)) hiI_).symm
  · exact all_take (p := fun u => u ≠ x) (d := 0) hiI_ (by omega) (by omega)
  · exact congrArg (Value.int .i64) (idxI_none x l (all_full (p := fun u => u ≠ x) hiI_ (by omega))).symm
def c_Contains (l : List Int) (x : Int) : CFD := ⟨204, [.one (ro 3 1 Tr.eI l), (SV.one (.lit (.int .i64 (x))))], [], (TV.sv (.one (.lit (.bool (decide (x ∈ l)))))), [], [], []⟩
theorem fn_Contains (l : List Int) (x : Int) (hl : l.length ≤ 1048576) : Fn Tryz.prog (c_Contains l x) := by
  refine fn_intro tt_ok Tryz.func204 rfl Tryz.call204 Tryz.ntmps204 Tryz.results204 rfl rfl rfl rfl ?_
  intro X ρ0 hb_ hgl_
  dsimp only [c_Contains]
  try refine nrm ?_
  repeat' (refine ar_id ?_; first | refine st1 ?_ | (first | ((first | refine ar_region (id := 1) tt_ok (inps := [.call (c_IndexI l x)]) rfl ?_ ?_ | refine ar_region tt_ok (inps := []) rfl ?_ ?_); rotate_left; (try dsimp only [c_IndexI]); (try refine nrm ?_); rotate_right) | refine ret3 ?_ | refine end3 ?_) | (refine ar_cond rfl trivial ?_ ?_ <;> intro hc_ <;> (try simp only [isNilI, inB, reduceCtorEq, cds] at hc_) <;> (try (first | contradiction | (exfalso; omega)))) | refine ar_until (And.intro ?_ (wk3 ?_)))
  all_goals (first | refine ar_id ?_ | (try (focus ((try refine nrmO ?_); (repeat' (first | exact True.intro | refine And.intro ?_ ?_)); all_goals (try (intro (hg_ : _ = true); (try simp only [isNilI, inB, reduceCtorEq, cds] at hg_); (repeat' (first | exact True.intro | refine And.intro ?_ ?_)))); all_goals (first | exact ob1 | exact fn_IndexI _ _ hl | skip)))))
  refine congrArg Value.bool ?_
  rw [decide_eq_decide]
  rcases idxI_lt x 0 l with ⟨h1, h2⟩ | ⟨j, h1, h2, h3⟩
  · exact ⟨fun h => absurd h (by omega), fun h => absurd h h2⟩
  · exact ⟨fun _ => h3, fun _ => by omega⟩
def c_willing (n : Int) : CFD := ⟨202, [.agg [], (SV.one (.lit (.int .i64 (n))))], [], (TV.sv (.one (.lit (.bool (true))))), [], [], []⟩
theorem fn_willing (n : Int) : Fn Tryz.prog (c_willing n) := by
  refine fn_intro tt_ok Tryz.func202 rfl Tryz.call202 Tryz.ntmps202 Tryz.results202 rfl rfl rfl rfl ?_
  intro X ρ0 hb_ hgl_
  dsimp only [c_willing]
  try refine nrm ?_
  repeat' (refine ar_id ?_; first | refine st1 ?_ | (first | ((first | refine ar_region tt_ok (inps := []) rfl ?_ ?_); rotate_left; (try refine nrm ?_); rotate_right) | refine ret3 ?_ | refine end3 ?_) | (refine ar_cond rfl trivial ?_ ?_ <;> intro hc_ <;> (try simp only [isNilI, inB, reduceCtorEq, cds] at hc_) <;> (try (first | contradiction | (exfalso; omega)))) | refine ar_until (And.intro ?_ (wk3 ?_)))
  all_goals (first | refine ar_id ?_ | (try (focus ((try refine nrmO ?_); (repeat' (first | exact True.intro | refine And.intro ?_ ?_)); all_goals (try (intro (hg_ : _ = true); (try simp only [isNilI, inB, reduceCtorEq, cds] at hg_); (repeat' (first | exact True.intro | refine And.intro ?_ ?_)))); all_goals (first | exact ob1 | skip)))))
def c_refusing (l : List Int) (n : Int) : CFD := ⟨203, [.agg [ro 3 1 Tr.eI l], (SV.one (.lit (.int .i64 (n))))], [], (TV.sv (.one (.lit (.bool (decide (n ∉ l)))))), [], [], []⟩
theorem fn_refusing (l : List Int) (n : Int) (hl : l.length ≤ 1048576) : Fn Tryz.prog (c_refusing l n) := by
  refine fn_intro tt_ok Tryz.func203 rfl Tryz.call203 Tryz.ntmps203 Tryz.results203 rfl rfl rfl rfl ?_
  intro X ρ0 hb_ hgl_
  dsimp only [c_refusing]
  try refine nrm ?_
  repeat' (refine ar_id ?_; first | refine st1 ?_ | (first | ((first | refine ar_region (id := 1) tt_ok (inps := [.call (c_Contains l n)]) rfl ?_ ?_ | refine ar_region tt_ok (inps := []) rfl ?_ ?_); rotate_left; (try dsimp only [c_Contains]); (try refine nrm ?_); rotate_right) | refine ret3 ?_ | refine end3 ?_) | (refine ar_cond rfl trivial ?_ ?_ <;> intro hc_ <;> (try simp only [isNilI, inB, reduceCtorEq, cds] at hc_) <;> (try (first | contradiction | (exfalso; omega)))) | refine ar_until (And.intro ?_ (wk3 ?_)))
  all_goals (first | refine ar_id ?_ | (try (focus ((try refine nrmO ?_); (repeat' (first | exact True.intro | refine And.intro ?_ ?_)); all_goals (try (intro (hg_ : _ = true); (try simp only [isNilI, inB, reduceCtorEq, cds] at hg_); (repeat' (first | exact True.intro | refine And.intro ?_ ?_)))); all_goals (first | exact ob1 | exact fn_Contains _ _ hl | skip)))))
  exact congrArg Value.bool (by by_cases h : n ∈ l <;> simp [h])
def c_granterW (k : GKernel) : CFD := ⟨170, [.agg [ro 33 1 eIntS k.Machine.Frames.Cells, ro 4 1 Tr.eB k.Machine.Frames.Used, ro 45 2 eEntry k.Machine.Table.Entries, (CV.lit (.int .i64 (k.Calls))), ro 3 1 Tr.eI k.Refuse]], [], .sv (.one (.ifro 199 .nil)), [], [], []⟩
theorem fn_granterW (k : GKernel) (h : k.Refuse = []) : Fn Tryz.prog (c_granterW k) := by
  have hr : k.Refuse.length = 0 := by rw [h]; rfl
  refine fn_intro tt_ok Tryz.func170 rfl Tryz.call170 Tryz.ntmps170 Tryz.results170 rfl rfl rfl rfl ?_
  intro X ρ0 hb_ hgl_
  dsimp only [c_granterW]
  try refine nrm ?_
  repeat' (refine ar_id ?_; first | refine st1 ?_ | (first | ((first | refine ar_region tt_ok (inps := []) rfl ?_ ?_); rotate_left; (try refine nrm ?_); rotate_right) | refine ret3 ?_ | refine end3 ?_) | (refine ar_cond rfl trivial ?_ ?_ <;> intro hc_ <;> (try simp only [isNilI, inB, reduceCtorEq, cds] at hc_) <;> (try (first | contradiction | (exfalso; omega)))) | refine ar_until (And.intro ?_ (wk3 ?_)))
  all_goals (first | refine ar_id ?_ | (try (focus ((try refine nrmO ?_); (repeat' (first | exact True.intro | refine And.intro ?_ ?_)); all_goals (try (intro (hg_ : _ = true); (try simp only [isNilI, inB, reduceCtorEq, cds] at hg_); (repeat' (first | exact True.intro | refine And.intro ?_ ?_)))); all_goals (first | exact ob1 | skip)))))
def c_granterR (k : GKernel) : CFD := ⟨170, [.agg [ro 33 1 eIntS k.Machine.Frames.Cells, ro 4 1 Tr.eB k.Machine.Frames.Used, ro 45 2 eEntry k.Machine.Table.Entries, (CV.lit (.int .i64 (k.Calls))), ro 3 1 Tr.eI k.Refuse]], [], .sv (.one (.ifro 201 (.row 3 1 k.Refuse.length (D.cat (k.Refuse.map Tr.eI)) .nil))), [], [], []⟩
theorem fn_granterR (k : GKernel) (h : k.Refuse ≠ []) : Fn Tryz.prog (c_granterR k) := by
  have hr : k.Refuse.length ≠ 0 := fun e => h (List.length_eq_zero_iff.1 e)
  refine fn_intro tt_ok Tryz.func170 rfl Tryz.call170 Tryz.ntmps170 Tryz.results170 rfl rfl rfl rfl ?_
  intro X ρ0 hb_ hgl_
  dsimp only [c_granterR]
  try refine nrm ?_
  repeat' (refine ar_id ?_; first | refine st1 ?_ | (first | ((first | refine ar_region tt_ok (inps := []) rfl ?_ ?_); rotate_left; (try refine nrm ?_); rotate_right) | refine ret3 ?_ | refine end3 ?_) | (refine ar_cond rfl trivial ?_ ?_ <;> intro hc_ <;> (try simp only [isNilI, inB, reduceCtorEq, cds] at hc_) <;> (try (first | contradiction | (exfalso; omega)))) | refine ar_until (And.intro ?_ (wk3 ?_)))
  all_goals (first | refine ar_id ?_ | (try (focus ((try refine nrmO ?_); (repeat' (first | exact True.intro | refine And.intro ?_ ?_)); all_goals (try (intro (hg_ : _ = true); (try simp only [isNilI, inB, reduceCtorEq, cds] at hg_); (repeat' (first | exact True.intro | refine And.intro ?_ ?_)))); all_goals (first | exact ob1 | skip)))))
theorem mt_willing : Mt Tryz.prog 199 "loop.example/g00978/impl.grants" 202 := fun v w => by kernel_rfl
theorem mt_refusing : Mt Tryz.prog 201 "loop.example/g00978/impl.grants" 203 := fun v w => by kernel_rfl
def c_KOkI (k : GKernel) : CFD := ⟨14, [.agg [ro 33 1 eIntS k.Machine.Frames.Cells, ro 4 1 Tr.eB k.Machine.Frames.Used, ro 45 2 eEntry k.Machine.Table.Entries, (CV.lit (.int .i64 (k.Calls))), ro 3 1 Tr.eI k.Refuse]], [], (TV.sv (.one (.lit (.bool (pKernelOk k))))), [], [], []⟩
theorem fn_KOkI (k : GKernel) (hs : szK k) : Fn Tryz.prog (c_KOkI k) := by
  have hr := hs.r
  refine fn_intro tt_ok Tryz.func14 rfl Tryz.call14 Tryz.ntmps14 Tryz.results14 rfl rfl rfl rfl ?_
  intro X ρ0 hb_ hgl_
  dsimp only [c_KOkI]
  try refine nrm ?_
  repeat' (refine ar_id ?_; first | refine st1 ?_ | (first | ((first | refine ar_region (id := 1) tt_ok (inps := [.call (c_MOkI k.Machine)]) rfl ?_ ?_ | refine ar_region tt_ok (inps := []) rfl ?_ ?_); rotate_left; (try dsimp only [c_MOkI]); (try refine nrm ?_); rotate_right) | refine ret3 ?_ | refine end3 ?_) | (refine ar_cond rfl trivial ?_ ?_ <;> intro hc_ <;> (try simp only [isNilI, inB, reduceCtorEq, cds] at hc_) <;> (try (first | contradiction | (exfalso; omega)))) | refine ar_until (And.intro ?_ (wk3 ?_)))
  all_goals (first | refine ar_id ?_ | (try (focus ((try refine nrmO ?_); (repeat' (first | exact True.intro | refine And.intro ?_ ?_)); all_goals (try (intro (hg_ : _ = true); (try simp only [isNilI, inB, reduceCtorEq, cds] at hg_); (repeat' (first | exact True.intro | refine And.intro ?_ ?_)))); all_goals (first | exact ob1 | exact fn_MOkI _ hs.m | skip)))))
  · refine bf fun h => ?_
    rcases hc_ with ((hc_ | hc_) | hc_) | hc_
    · exact of_decide_eq_false hc_ h.1
    · have := h.2.1.1; omega
    · have := h.2.1.2; omega
    · have := h.2.2.2; omega
  have hc1 := hc_
  refine ar_keep 469762071 (by dsimp only [keepS] <;> exact rfl) ?_
  refine ar_forM (k.Refuse.length) (fun i => ∀ y ∈ k.Refuse.take i, 0 ≤ y) (fun i => [(28, (TV.sv (.one (.lit (.int .i64 (i))))))]) (fun i => []) ?_ ?_ ?_
  rotate_left
  · first | trivial | simp
  (dsimp only [rnCap, capSVs, Int.toNat_natCast, ro, Nat.reduceAdd, Nat.reduceMul, Nat.zero_add, List.map, putT, app, wrapG, gOb, argT, keys, slotOf, dropped, gAnd, wB, rnT, rnS, rnC, rnCs, rnSs, rnM, rnB, rnN, rn, lk, St.over, ded, delL, keepT, menT, menSs, menS, menCs, menC, hasN, resT, SV.cells]; refine wk3 ?_; (focus ((try refine nrmO ?_); (repeat' (first | exact True.intro | refine And.intro ?_ ?_)); all_goals (try (intro (hg_ : _ = true); (try simp only [isNilI, inB, reduceCtorEq, cds] at hg_); (repeat' (first | exact True.intro | refine And.intro ?_ ?_)))); all_goals (first | exact ob1 | exact rfl | skip))))
  rotate_right
  intro i hi_ hiI_
  dsimp only [rnCap, capSVs, Int.toNat_natCast, ro, Nat.reduceAdd, Nat.reduceMul, Nat.zero_add, List.map, putT, app, wrapG, gOb, argT, keys, slotOf, dropped, gAnd, wB, rnT, rnS, rnC, rnCs, rnSs, rnM, rnB, rnN, rn, lk, St.over, ded, delL, keepT, menT, menSs, menS, menCs, menC, hasN, resT, SV.cells]
  repeat' (refine ar_id ?_; first | refine st1 ?_ | (first | ((first | refine ar_region (id := 5) tt_ok (inps := [.elem (Tr.eI (k.Refuse.getD i 0))]) rfl ?_ ?_ | refine ar_region tt_ok (inps := []) rfl ?_ ?_); rotate_left; (try refine nrm ?_); rotate_right) | refine ret3 ?_ | refine end3 ?_) | (refine ar_cond rfl trivial ?_ ?_ <;> intro hc_ <;> (try simp only [isNilI, inB, reduceCtorEq, cds] at hc_) <;> (try (first | contradiction | (exfalso; omega)))) | refine ar_until (And.intro ?_ (wk3 ?_)))
  all_goals (first | refine ar_id ?_ | (try (focus ((try refine nrmO ?_); (repeat' (first | exact True.intro | refine And.intro ?_ ?_)); all_goals (try (intro (hg_ : _ = true); (try simp only [isNilI, inB, reduceCtorEq, cds] at hg_); (repeat' (first | exact True.intro | refine And.intro ?_ ?_)))); all_goals (first | exact ob1 | skip)))))
  · exact bf fun h => by have := h.2.2.1 _ (getD_in (l := k.Refuse) (i := i) (d := 0) (by omega)); omega
  · exact all_take (d := 0) hiI_ (by omega) hc_
  · exact bt ⟨of_decide_eq_true hc1.1.1.1, ⟨hc1.1.1.2, hc1.1.2⟩, all_full hiI_ (by omega), by omega⟩
def c_takes (k : GKernel) : CFD := ⟨114, [.agg [ro 33 1 eIntS k.Machine.Frames.Cells, ro 4 1 Tr.eB k.Machine.Frames.Used, ro 45 2 eEntry k.Machine.Table.Entries, (CV.lit (.int .i64 (k.Calls))), ro 3 1 Tr.eI k.Refuse]], [], (TV.sv (.one (.lit (.bool (decide (canCall k)))))), [], [], []⟩
theorem fn_takes (k : GKernel) (hs : szK k) : Fn Tryz.prog (c_takes k) := by
  refine fn_intro tt_ok Tryz.func114 rfl Tryz.call114 Tryz.ntmps114 Tryz.results114 rfl rfl rfl rfl ?_
  intro X ρ0 hb_ hgl_
  dsimp only [c_takes]
  try refine nrm ?_
  repeat' (refine ar_id ?_; first | refine st1 ?_ | (first | ((first | refine ar_region (id := 1) tt_ok (inps := [.call (c_KOkI k)]) rfl ?_ ?_ | refine ar_region tt_ok (inps := []) rfl ?_ ?_); rotate_left; (try dsimp only [c_KOkI]); (try refine nrm ?_); rotate_right) | refine ret3 ?_ | refine end3 ?_) | (refine ar_cond rfl trivial ?_ ?_ <;> intro hc_ <;> (try simp only [isNilI, inB, reduceCtorEq, cds] at hc_) <;> (try (first | contradiction | (exfalso; omega)))) | refine ar_until (And.intro ?_ (wk3 ?_)))
  all_goals (first | refine ar_id ?_ | (try (focus ((try refine nrmO ?_); (repeat' (first | exact True.intro | refine And.intro ?_ ?_)); all_goals (try (intro (hg_ : _ = true); (try simp only [isNilI, inB, reduceCtorEq, cds] at hg_); (repeat' (first | exact True.intro | refine And.intro ?_ ?_)))); all_goals (first | exact ob1 | exact fn_KOkI _ hs | skip)))))
  refine congrArg Value.bool (Bool.eq_iff_iff.2 (Iff.trans ?_ (decide_eq_true_iff (p := canCall k)).symm))
  simp only [decide_eq_true_eq, Bool.cond_false_right, Bool.and_eq_true, pKernelOk]
  exact Iff.rfl
def c_CopyKI (k : GKernel) : CFD := ⟨45, [.agg [ro 33 1 eIntS k.Machine.Frames.Cells, ro 4 1 Tr.eB k.Machine.Frames.Used, ro 45 2 eEntry k.Machine.Table.Entries, (CV.lit (.int .i64 (k.Calls))), ro 3 1 Tr.eI k.Refuse]], [], .sv (.agg [.hd 0, .hd 1, .hd 2, (CV.lit (.int .i64 (k.Calls))), .hd 3]), [(0, some (.row 33 1 (k.Machine.Frames.Cells.map eIntS))), (1, some (.row 4 1 (k.Machine.Frames.Used.map Tr.eB))), (2, some (.row 45 2 (k.Machine.Table.Entries.map eEntry))), (3, some (.row 3 1 (k.Refuse.map Tr.eI)))], [0, 1, 2, 3], []⟩
theorem fn_CopyKI (k : GKernel) (hs : szK k) : Fn Tryz.prog (c_CopyKI k) := by
  have hr := hs.r
  refine fn_intro tt_ok Tryz.func45 rfl Tryz.call45 Tryz.ntmps45 Tryz.results45 rfl rfl rfl rfl ?_
  intro X ρ0 hb_ hgl_
  dsimp only [c_CopyKI]
  try refine nrm ?_
  repeat' (refine ar_id ?_; first | refine st1 ?_ | (first | ((first | refine ar_draw (id := 1) (inps := [.call (c_CopyMI k.Machine), .call (c_CloneI k.Refuse)]) tt_ok (by kernel_rfl) rfl rfl (by kernel_rfl) rfl rfl rfl rfl ?_ ?_ | refine ar_region tt_ok (inps := []) rfl ?_ ?_); rotate_left; (try dsimp only [c_CloneI, c_CopyMI]); (try refine nrm ?_); rotate_right) | refine ret3 ?_ | refine end3 ?_) | (refine ar_cond rfl trivial ?_ ?_ <;> intro hc_ <;> (try simp only [isNilI, inB, reduceCtorEq, cds] at hc_) <;> (try (first | contradiction | (exfalso; omega)))) | refine ar_until (And.intro ?_ (wk3 ?_)))
  all_goals (first | refine ar_id ?_ | (try (focus ((try refine nrmO ?_); (repeat' (first | exact True.intro | refine And.intro ?_ ?_)); all_goals (try (intro (hg_ : _ = true); (try simp only [isNilI, inB, reduceCtorEq, cds] at hg_); (repeat' (first | exact True.intro | refine And.intro ?_ ?_)))); all_goals (first | exact ob1 | exact fn_CopyMI _ hs.m | exact fn_CloneI _ hs.r | skip)))))
def pCount (k : GKernel) : GKernel × Bool := if canCall k then (called k, decide (granted k)) else (k, false)
def c_Count (k : GKernel) : CFD := ⟨165, [.agg [ro 33 1 eIntS k.Machine.Frames.Cells, ro 4 1 Tr.eB k.Machine.Frames.Used, ro 45 2 eEntry k.Machine.Table.Entries, (CV.lit (.int .i64 (k.Calls))), ro 3 1 Tr.eI k.Refuse]], [], .tup [.agg [.hd 0, .hd 1, .hd 2, (CV.lit (.int .i64 (((pCount k).1).Calls))), .hd 3], (SV.one (.lit (.bool ((pCount k).2))))], [(0, some (.row 33 1 (((pCount k).1).Machine.Frames.Cells.map eIntS))), (1, some (.row 4 1 (((pCount k).1).Machine.Frames.Used.map Tr.eB))), (2, some (.row 45 2 (((pCount k).1).Machine.Table.Entries.map eEntry))), (3, some (.row 3 1 (((pCount k).1).Refuse.map Tr.eI)))], [0, 1, 2, 3], []⟩
theorem fn_Count (k : GKernel) (hs : szK k) : Fn Tryz.prog (c_Count k) := by
  by_cases hC : canCall k
  · have h0 : 0 ≤ k.Calls := hC.1.2.1.1
    have h1 : k.Calls < 100000 := hC.2
    by_cases hE : k.Refuse = []
    · have hV : pCount k = (⟨k.Machine, k.Calls + 1, k.Refuse⟩, true) := by unfold pCount; rw [if_pos hC, decide_eq_true (show granted k by unfold granted; rw [hE]; simp)]; rfl
      refine fn_intro tt_ok Tryz.func165 rfl Tryz.call165 Tryz.ntmps165 Tryz.results165 rfl rfl rfl rfl ?_
      intro X ρ0 hb_ hgl_
      dsimp only [c_Count]
      try refine nrm ?_
      rw [hV]
      repeat' (refine ar_id ?_; first | refine st1 ?_ | (first | ((first | refine ar_region (id := 1) tt_ok (inps := [.call (c_CopyKI k)]) rfl ?_ ?_ | refine ar_region (id := 2) tt_ok (inps := [.call (c_takes k)]) rfl ?_ ?_ | refine ar_draw (id := 5) (inps := [.call (c_granterW k), .call (c_willing k.Calls)]) tt_ok (by kernel_rfl) rfl rfl (by kernel_rfl) rfl rfl rfl rfl ?_ ?_ | refine ar_region tt_ok (inps := []) rfl ?_ ?_); rotate_left; (try dsimp only [c_CopyKI, c_granterW, c_takes, c_willing]); (try refine nrm ?_); rotate_right) | refine ret3 ?_ | refine end3 ?_) | (refine ar_cond rfl trivial ?_ ?_ <;> intro hc_ <;> (try simp only [isNilI, inB, reduceCtorEq, cds] at hc_) <;> (try (first | contradiction | (exfalso; omega)))) | refine ar_until (And.intro ?_ (wk3 ?_)))
      all_goals (first | refine ar_id ?_ | (try (focus ((try refine nrmO ?_); (repeat' (first | exact True.intro | refine And.intro ?_ ?_)); all_goals (try (intro (hg_ : _ = true); (try simp only [isNilI, inB, reduceCtorEq, cds] at hg_); (repeat' (first | exact True.intro | refine And.intro ?_ ?_)))); all_goals (first | exact ob1 | exact fn_CopyKI _ hs | exact fn_takes _ hs | exact fn_granterW _ hE | exact fn_willing _ | exact mt_willing | skip)))))
    · have hV : pCount k = (⟨k.Machine, k.Calls + 1, k.Refuse⟩, decide (k.Calls ∉ k.Refuse)) := by unfold pCount; rw [if_pos hC]; rfl
      refine fn_intro tt_ok Tryz.func165 rfl Tryz.call165 Tryz.ntmps165 Tryz.results165 rfl rfl rfl rfl ?_
      intro X ρ0 hb_ hgl_
      dsimp only [c_Count]
      try refine nrm ?_
      rw [hV]
      repeat' (refine ar_id ?_; first | refine st1 ?_ | (first | ((first | refine ar_region (id := 1) tt_ok (inps := [.call (c_CopyKI k)]) rfl ?_ ?_ | refine ar_region (id := 2) tt_ok (inps := [.call (c_takes k)]) rfl ?_ ?_ | refine ar_draw (id := 5) (inps := [.call (c_granterR k), .call (c_refusing k.Refuse k.Calls)]) tt_ok (by kernel_rfl) rfl rfl (by kernel_rfl) rfl rfl rfl rfl ?_ ?_ | refine ar_region tt_ok (inps := []) rfl ?_ ?_); rotate_left; (try dsimp only [c_CopyKI, c_granterR, c_refusing, c_takes]); (try refine nrm ?_); rotate_right) | refine ret3 ?_ | refine end3 ?_) | (refine ar_cond rfl trivial ?_ ?_ <;> intro hc_ <;> (try simp only [isNilI, inB, reduceCtorEq, cds] at hc_) <;> (try (first | contradiction | (exfalso; omega)))) | refine ar_until (And.intro ?_ (wk3 ?_)))
      all_goals (first | refine ar_id ?_ | (try (focus ((try refine nrmO ?_); (repeat' (first | exact True.intro | refine And.intro ?_ ?_)); all_goals (try (intro (hg_ : _ = true); (try simp only [isNilI, inB, reduceCtorEq, cds] at hg_); (repeat' (first | exact True.intro | refine And.intro ?_ ?_)))); all_goals (first | exact ob1 | exact fn_CopyKI _ hs | exact fn_takes _ hs | exact fn_granterR _ hE | exact fn_refusing _ _ hs.r | exact mt_refusing | skip)))))
  · have hV : pCount k = (k, false) := by unfold pCount; rw [if_neg hC]
    refine fn_intro tt_ok Tryz.func165 rfl Tryz.call165 Tryz.ntmps165 Tryz.results165 rfl rfl rfl rfl ?_
    intro X ρ0 hb_ hgl_
    dsimp only [c_Count]
    try refine nrm ?_
    rw [hV]
    repeat' (refine ar_id ?_; first | refine st1 ?_ | (first | ((first | refine ar_region (id := 1) tt_ok (inps := [.call (c_CopyKI k)]) rfl ?_ ?_ | refine ar_region (id := 2) tt_ok (inps := [.call (c_takes k)]) rfl ?_ ?_ | refine ar_region tt_ok (inps := []) rfl ?_ ?_); rotate_left; (try dsimp only [c_CopyKI, c_takes]); (try refine nrm ?_); rotate_right) | refine ret3 ?_ | refine end3 ?_) | (refine ar_cond rfl trivial ?_ ?_ <;> intro hc_ <;> (try simp only [isNilI, inB, reduceCtorEq, cds] at hc_) <;> (try (first | contradiction | (exfalso; omega)))) | refine ar_until (And.intro ?_ (wk3 ?_)))
    all_goals (first | refine ar_id ?_ | (try (focus ((try refine nrmO ?_); (repeat' (first | exact True.intro | refine And.intro ?_ ?_)); all_goals (try (intro (hg_ : _ = true); (try simp only [isNilI, inB, reduceCtorEq, cds] at hg_); (repeat' (first | exact True.intro | refine And.intro ?_ ?_)))); all_goals (first | exact ob1 | exact fn_CopyKI _ hs | exact fn_takes _ hs | skip)))))
end Eng
end Go.Proofs.YtlkkiopjknbomaaGreatDoor
namespace Go.Proofs.YtlkkiopjknbomaaGreatDoor
open Go.RowKit
set_option linter.unusedVariables false
set_option linter.unusedSimpArgs false
set_option maxRecDepth 100000
namespace Eng
open Tr
theorem modeI_in {k : GKernel} {page : Int} (h : modeOf k page ≠ 0) : (0 ≤ page ∧ page < k.Machine.Table.Entries.length) ∧ pPageEntry k.Machine.Table page = k.Machine.Table.Entries.getD page.toNat ⟨0, 0⟩ := by
  unfold modeOf pPageEntry at h
  by_cases hp : 0 ≤ page ∧ page < k.Machine.Table.Entries.length
  · exact ⟨hp, by unfold pPageEntry; rw [if_pos hp]⟩
  · rw [if_neg hp] at h; exact absurd rfl h
/-- the frame that a page leaves keeps a page -/
def c_remK (m : GMachine) (page : Int) (e : GEntry) : CFD := ⟨166, [.agg [.hd 0, .hd 1, .hd 2], (SV.one (.lit (.int .i64 (page)))), .agg [(CV.lit (.int .i64 (e.Mode))), (CV.lit (.int .i64 (e.Frame)))]], [(0, some (.row 33 1 (m.Frames.Cells.map eIntS))), (1, some (.row 4 1 (m.Frames.Used.map Tr.eB))), (2, some (.row 45 2 (m.Table.Entries.map eEntry)))], .sv (.agg [.hd 0, .hd 1, .hd 10]), [(0, some (.row 33 1 (m.Frames.Cells.map eIntS))), (1, some (.row 4 1 (m.Frames.Used.map Tr.eB))), (10, some (.row 45 2 (((pSetPage m.Table page e).1).Entries.map eEntry)))], [10], []⟩
set_option maxHeartbeats 2000000 in
theorem fn_remK (m : GMachine) (page : Int) (e : GEntry) (hs : szM m) (h : ¬ ((pPagesOn (pSetPage m.Table page e).1 (pPageEntry m.Table page).Frame).length : Int) = 0) : Fn Tryz.prog (c_remK m page e) := by
  have hse : (pSetPage m.Table page e).1.Entries.length ≤ 1048576 := by have := hs.e; unfold pSetPage; split <;> simp <;> omega
  refine fn_intro tt_ok Tryz.func166 rfl Tryz.call166 Tryz.ntmps166 Tryz.results166 rfl rfl rfl rfl ?_
  intro X ρ0 hb_ hgl_
  dsimp only [c_remK]
  try refine nrm ?_
  repeat' (refine ar_id ?_; first | refine st1 ?_ | (first | ((first | refine ar_region (id := 1) tt_ok (inps := [.call (c_PageEntryI m.Table page)]) rfl ?_ ?_ | refine ar_region (id := 2) tt_ok (inps := [.call (c_SetPageI m.Table page e)]) rfl ?_ ?_ | refine ar_region (id := 3) tt_ok (inps := [.call (c_PagesOnI (pSetPage m.Table page e).1 (pPageEntry m.Table page).Frame)]) rfl ?_ ?_ | refine ar_region tt_ok (inps := []) rfl ?_ ?_); rotate_left; (try dsimp only [c_PageEntryI, c_PagesOnI, c_SetPageI]); (try refine nrm ?_); rotate_right) | refine ret3 ?_ | refine end3 ?_) | (refine ar_cond rfl trivial ?_ ?_ <;> intro hc_ <;> (try simp only [isNilI, inB, reduceCtorEq, cds] at hc_) <;> (try (first | contradiction | (exfalso; omega)))) | refine ar_until (And.intro ?_ (wk3 ?_)))
  all_goals (first | refine ar_id ?_ | (try (focus ((try refine nrmO ?_); (repeat' (first | exact True.intro | refine And.intro ?_ ?_)); all_goals (try (intro (hg_ : _ = true); (try simp only [isNilI, inB, reduceCtorEq, cds] at hg_); (repeat' (first | exact True.intro | refine And.intro ?_ ?_)))); all_goals (first | exact ob1 | exact fn_PageEntryI _ _ hs.e | exact fn_SetPageI _ _ _ hs.e | exact fn_PagesOnI _ _ hse | skip)))))
/-- the frame that a page leaves is given back -/
def c_remD (m : GMachine) (page : Int) (e : GEntry) : CFD := ⟨166, [.agg [.hd 0, .hd 1, .hd 2], (SV.one (.lit (.int .i64 (page)))), .agg [(CV.lit (.int .i64 (e.Mode))), (CV.lit (.int .i64 (e.Frame)))]], [(0, some (.row 33 1 (m.Frames.Cells.map eIntS))), (1, some (.row 4 1 (m.Frames.Used.map Tr.eB))), (2, some (.row 45 2 (m.Table.Entries.map eEntry)))], .sv (.agg [.hd 10, .hd 11, .hd 12]), [(10, some (.row 33 1 (((pFrameGive m.Frames (pPageEntry m.Table page).Frame).1).Cells.map eIntS))), (11, some (.row 4 1 (((pFrameGive m.Frames (pPageEntry m.Table page).Frame).1).Used.map Tr.eB))), (12, some (.row 45 2 (((pSetPage m.Table page e).1).Entries.map eEntry)))], [10, 11, 12], []⟩
set_option maxHeartbeats 2000000 in
theorem fn_remD (m : GMachine) (page : Int) (e : GEntry) (hs : szM m) (h : ((pPagesOn (pSetPage m.Table page e).1 (pPageEntry m.Table page).Frame).length : Int) = 0) : Fn Tryz.prog (c_remD m page e) := by
  have hse : (pSetPage m.Table page e).1.Entries.length ≤ 1048576 := by have := hs.e; unfold pSetPage; split <;> simp <;> omega
  refine fn_intro tt_ok Tryz.func166 rfl Tryz.call166 Tryz.ntmps166 Tryz.results166 rfl rfl rfl rfl ?_
  intro X ρ0 hb_ hgl_
  dsimp only [c_remD]
  try refine nrm ?_
  repeat' (refine ar_id ?_; first | refine st1 ?_ | (first | ((first | refine ar_region (id := 1) tt_ok (inps := [.call (c_PageEntryI m.Table page)]) rfl ?_ ?_ | refine ar_region (id := 2) tt_ok (inps := [.call (c_SetPageI m.Table page e)]) rfl ?_ ?_ | refine ar_region (id := 3) tt_ok (inps := [.call (c_PagesOnI (pSetPage m.Table page e).1 (pPageEntry m.Table page).Frame)]) rfl ?_ ?_ | refine ar_region (id := 4) tt_ok (inps := [.call (c_GiveI m.Frames (pPageEntry m.Table page).Frame)]) rfl ?_ ?_ | refine ar_region tt_ok (inps := []) rfl ?_ ?_); rotate_left; (try dsimp only [c_GiveI, c_PageEntryI, c_PagesOnI, c_SetPageI]); (try refine nrm ?_); rotate_right) | refine ret3 ?_ | refine end3 ?_) | (refine ar_cond rfl trivial ?_ ?_ <;> intro hc_ <;> (try simp only [isNilI, inB, reduceCtorEq, cds] at hc_) <;> (try (first | contradiction | (exfalso; omega)))) | refine ar_until (And.intro ?_ (wk3 ?_)))
  all_goals (first | refine ar_id ?_ | (try (focus ((try refine nrmO ?_); (repeat' (first | exact True.intro | refine And.intro ?_ ?_)); all_goals (try (intro (hg_ : _ = true); (try simp only [isNilI, inB, reduceCtorEq, cds] at hg_); (repeat' (first | exact True.intro | refine And.intro ?_ ?_)))); all_goals (first | exact ob1 | exact fn_PageEntryI _ _ hs.e | exact fn_SetPageI _ _ _ hs.e | exact fn_PagesOnI _ _ hse | exact fn_GiveI _ _ hs.c hs.u hs.r | skip)))))
def c_CountR (k k' : GKernel) (b : Bool) : CFD := ⟨165, [.agg [ro 33 1 eIntS k.Machine.Frames.Cells, ro 4 1 Tr.eB k.Machine.Frames.Used, ro 45 2 eEntry k.Machine.Table.Entries, (CV.lit (.int .i64 (k.Calls))), ro 3 1 Tr.eI k.Refuse]], [], .tup [.agg [.hd 0, .hd 1, .hd 2, (CV.lit (.int .i64 ((k').Calls))), .hd 3], (SV.one (.lit (.bool (b))))], [(0, some (.row 33 1 ((k').Machine.Frames.Cells.map eIntS))), (1, some (.row 4 1 ((k').Machine.Frames.Used.map Tr.eB))), (2, some (.row 45 2 ((k').Machine.Table.Entries.map eEntry))), (3, some (.row 3 1 ((k').Refuse.map Tr.eI)))], [0, 1, 2, 3], []⟩
theorem fn_CountR (k k' : GKernel) (b : Bool) (hs : szK k) (h : pCount k = (k', b)) : Fn Tryz.prog (c_CountR k k' b) := by
  have := fn_Count k hs
  unfold c_Count at this
  rw [h] at this
  exact this
/-- what the calls' tests come to -/
theorem count_no {k : GKernel} (h : ¬ canCall k) : pCount k = (k, false) := by unfold pCount; rw [if_neg h]
theorem count_y {k : GKernel} (h : canCall k) (hg : granted k) : pCount k = (⟨k.Machine, k.Calls + 1, k.Refuse⟩, true) := by unfold pCount; rw [if_pos h, decide_eq_true hg]; rfl
theorem count_n {k : GKernel} (h : canCall k) (hg : ¬ granted k) : pCount k = (⟨k.Machine, k.Calls + 1, k.Refuse⟩, false) := by unfold pCount; rw [if_pos h, decide_eq_false hg]; rfl
end Eng
end Go.Proofs.YtlkkiopjknbomaaGreatDoor
namespace Go.Proofs.YtlkkiopjknbomaaGreatDoor
open Go.RowKit
set_option linter.unusedVariables false
set_option linter.unusedSimpArgs false
set_option maxRecDepth 100000
namespace Eng
open Tr
theorem used_of {m : GMachine} {page : Int} (hok : okM m) (hm : (pPageEntry m.Table page).Mode ≠ 0) : isUsed m.Frames (pPageEntry m.Table page).Frame := by
  obtain ⟨f, hf, h1, h2, _, _⟩ := okM_entry hok hm
  rw [hf]
  refine ⟨hok.1, ⟨by omega, by omega⟩, ?_⟩
  have h3 := hok.2.2 f h2
  rw [Int.toNat_natCast, h3]
  congr 1
  rw [decide_eq_true_eq]
  unfold pPagesOn
  rw [onFrame_pos]
  by_cases hp : 0 ≤ page ∧ page < m.Table.Entries.length
  · have e : pPageEntry m.Table page = m.Table.Entries.getD page.toNat ⟨0, 0⟩ := by unfold pPageEntry; rw [if_pos hp]
    rw [e] at hm hf
    exact ⟨_, getD_in (by omega), hm, hf⟩
  · unfold pPageEntry at hm; rw [if_neg hp] at hm; exact absurd rfl hm
theorem setP {t : GTable} {page : Int} {e : GEntry} (h : okSet t page e) : pSetPage t page e = (⟨t.Entries.set page.toNat e⟩, true) := by unfold pSetPage; rw [if_pos h]
theorem rem_keep {m : GMachine} {page : Int} {e : GEntry} (hok : okM m) (hm : (pPageEntry m.Table page).Mode ≠ 0) (hs : okSet m.Table page e) (hL : ¬ ((pPagesOn (pSetPage m.Table page e).1 (pPageEntry m.Table page).Frame).length : Int) = 0) :
    Tr.dropped (setEntry m page.toNat e) (pPageEntry m.Table page).Frame.toNat = ⟨m.Frames, ⟨m.Table.Entries.set page.toNat e⟩⟩ := by
  obtain ⟨f, hf, _⟩ := okM_entry hok hm
  rw [hf, setP hs] at hL
  unfold Tr.dropped
  rw [hf, Int.toNat_natCast, if_neg]
  · rfl
  · intro h; exact hL (by exact_mod_cast h)
theorem rem_drop {m : GMachine} {page : Int} {e : GEntry} (hok : okM m) (hm : (pPageEntry m.Table page).Mode ≠ 0) (hs : okSet m.Table page e) (hL : ((pPagesOn (pSetPage m.Table page e).1 (pPageEntry m.Table page).Frame).length : Int) = 0) :
    Tr.dropped (setEntry m page.toNat e) (pPageEntry m.Table page).Frame.toNat = ⟨(pFrameGive m.Frames (pPageEntry m.Table page).Frame).1, ⟨m.Table.Entries.set page.toNat e⟩⟩ := by
  have hG : pFrameGive m.Frames (pPageEntry m.Table page).Frame = (⟨m.Frames.Cells.set (pPageEntry m.Table page).Frame.toNat (List.replicate 16 0), m.Frames.Used.set (pPageEntry m.Table page).Frame.toNat false⟩, true) := by
    unfold pFrameGive; rw [if_pos (used_of hok hm)]
  obtain ⟨f, hf, _⟩ := okM_entry hok hm
  rw [hG]
  rw [hf, setP hs] at hL
  unfold Tr.dropped
  rw [hf, Int.toNat_natCast, if_pos]
  · rfl
  · show (pPagesOn ⟨m.Table.Entries.set page.toNat e⟩ (f : Int)).length = 0; exact_mod_cast hL
def c_KMapOnI (k : GKernel) (page other : Int) : CFD := ⟨149, [.agg [ro 33 1 eIntS k.Machine.Frames.Cells, ro 4 1 Tr.eB k.Machine.Frames.Used, ro 45 2 eEntry k.Machine.Table.Entries, (CV.lit (.int .i64 (k.Calls))), ro 3 1 Tr.eI k.Refuse], (SV.one (.lit (.int .i64 (page)))), (SV.one (.lit (.int .i64 (other))))], [], .tup [.agg [.hd 0, .hd 1, .hd 2, (CV.lit (.int .i64 (((pKMapOn k page other).1).Calls))), .hd 3], (SV.one (.lit (.bool ((pKMapOn k page other).2))))], [(0, some (.row 33 1 (((pKMapOn k page other).1).Machine.Frames.Cells.map eIntS))), (1, some (.row 4 1 (((pKMapOn k page other).1).Machine.Frames.Used.map Tr.eB))), (2, some (.row 45 2 (((pKMapOn k page other).1).Machine.Table.Entries.map eEntry))), (3, some (.row 3 1 (((pKMapOn k page other).1).Refuse.map Tr.eI)))], [0, 1, 2, 3], []⟩
set_option maxHeartbeats 4000000 in
theorem fn_KMapOnI (k : GKernel) (page other : Int) (hs : szK k) : Fn Tryz.prog (c_KMapOnI k page other) := by
  have hse := hs.m.e
  by_cases hC : canCall k
  · have hok : okM k.Machine := hC.1.1
    by_cases hg : granted k
    · have hcn := count_y hC hg
      by_cases hQ : modeOf k page ≠ 0 ∧ modeOf k other ≠ 0 ∧ page ≠ other
      · obtain ⟨h1, h2, h3⟩ := hQ
        have hp := (modeI_in h1).1
        obtain ⟨fo, hfo, _⟩ := okM_entry hok h2
        have hset : okSet k.Machine.Table page ⟨2, (pPageEntry k.Machine.Table other).Frame⟩ := ⟨hp, .inr ⟨.inr rfl, by show 0 ≤ (pPageEntry k.Machine.Table other).Frame; omega⟩⟩
        have hS := setP hset
        unfold modeOf at h1 h2
        by_cases hL : ((pPagesOn (pSetPage k.Machine.Table page ⟨2, (pPageEntry k.Machine.Table other).Frame⟩).1 (pPageEntry k.Machine.Table page).Frame).length : Int) = 0
        · have hV : pKMapOn k page other = (⟨⟨(pFrameGive k.Machine.Frames (pPageEntry k.Machine.Table page).Frame).1, ⟨k.Machine.Table.Entries.set page.toNat ⟨2, (pPageEntry k.Machine.Table other).Frame⟩⟩⟩, k.Calls + 1, k.Refuse⟩, true) := by
            unfold pKMapOn pOn modeOf
            rw [if_pos hC, if_pos ⟨hg, h1, h2, h3⟩, rem_drop hok h1 hset hL]
          refine fn_intro tt_ok Tryz.func149 rfl Tryz.call149 Tryz.ntmps149 Tryz.results149 rfl rfl rfl rfl ?_
          intro X ρ0 hb_ hgl_
          dsimp only [c_KMapOnI]
          try refine nrm ?_
          rw [hV]
          repeat' (refine ar_id ?_; first | refine st1 ?_ | (first | ((first | refine ar_region (id := 1) tt_ok (inps := [.call (c_CountR k ⟨k.Machine, k.Calls + 1, k.Refuse⟩ true)]) rfl ?_ ?_ | refine ar_region (id := 2) tt_ok (inps := [.call (c_PageEntryI k.Machine.Table other)]) rfl ?_ ?_ | refine ar_region (id := 3) tt_ok (inps := [.call (c_PageEntryI k.Machine.Table page), .call (c_isMapped (pPageEntry k.Machine.Table page).Mode (pPageEntry k.Machine.Table page).Frame), .call (c_isMapped (pPageEntry k.Machine.Table other).Mode (pPageEntry k.Machine.Table other).Frame)]) rfl ?_ ?_ | refine ar_region (id := 5) tt_ok (inps := [.call (c_remD k.Machine page ⟨2, (pPageEntry k.Machine.Table other).Frame⟩)]) rfl ?_ ?_ | refine ar_region tt_ok (inps := []) rfl ?_ ?_); rotate_left; (try dsimp only [c_CountR, c_PageEntryI, c_isMapped, c_remD]); (try refine nrm ?_); rotate_right) | refine ret3 ?_ | refine end3 ?_) | (refine ar_cond rfl trivial ?_ ?_ <;> intro hc_ <;> (try simp only [isNilI, inB, reduceCtorEq, cds] at hc_) <;> (try (first | contradiction | (exfalso; omega)))) | refine ar_until (And.intro ?_ (wk3 ?_)))
          all_goals (first | refine ar_id ?_ | (try (focus ((try refine nrmO ?_); (repeat' (first | exact True.intro | refine And.intro ?_ ?_)); all_goals (try (intro (hg_ : _ = true); (try simp only [isNilI, inB, reduceCtorEq, cds] at hg_); (repeat' (first | exact True.intro | refine And.intro ?_ ?_)))); all_goals (first | exact ob1 | exact fn_CountR _ _ _ hs hcn | exact fn_PageEntryI _ _ hse | exact fn_isMapped _ _ | exact fn_remD _ _ _ hs.m hL | skip)))))
          all_goals (try rw [hS])
          all_goals (first | rfl | (exfalso; grind))
        · have hV : pKMapOn k page other = (⟨⟨k.Machine.Frames, ⟨k.Machine.Table.Entries.set page.toNat ⟨2, (pPageEntry k.Machine.Table other).Frame⟩⟩⟩, k.Calls + 1, k.Refuse⟩, true) := by
            unfold pKMapOn pOn modeOf
            rw [if_pos hC, if_pos ⟨hg, h1, h2, h3⟩, rem_keep hok h1 hset hL]
          refine fn_intro tt_ok Tryz.func149 rfl Tryz.call149 Tryz.ntmps149 Tryz.results149 rfl rfl rfl rfl ?_
          intro X ρ0 hb_ hgl_
          dsimp only [c_KMapOnI]
          try refine nrm ?_
          rw [hV]
          repeat' (refine ar_id ?_; first | refine st1 ?_ | (first | ((first | refine ar_region (id := 1) tt_ok (inps := [.call (c_CountR k ⟨k.Machine, k.Calls + 1, k.Refuse⟩ true)]) rfl ?_ ?_ | refine ar_region (id := 2) tt_ok (inps := [.call (c_PageEntryI k.Machine.Table other)]) rfl ?_ ?_ | refine ar_region (id := 3) tt_ok (inps := [.call (c_PageEntryI k.Machine.Table page), .call (c_isMapped (pPageEntry k.Machine.Table page).Mode (pPageEntry k.Machine.Table page).Frame), .call (c_isMapped (pPageEntry k.Machine.Table other).Mode (pPageEntry k.Machine.Table other).Frame)]) rfl ?_ ?_ | refine ar_region (id := 5) tt_ok (inps := [.call (c_remK k.Machine page ⟨2, (pPageEntry k.Machine.Table other).Frame⟩)]) rfl ?_ ?_ | refine ar_region tt_ok (inps := []) rfl ?_ ?_); rotate_left; (try dsimp only [c_CountR, c_PageEntryI, c_isMapped, c_remK]); (try refine nrm ?_); rotate_right) | refine ret3 ?_ | refine end3 ?_) | (refine ar_cond rfl trivial ?_ ?_ <;> intro hc_ <;> (try simp only [isNilI, inB, reduceCtorEq, cds] at hc_) <;> (try (first | contradiction | (exfalso; omega)))) | refine ar_until (And.intro ?_ (wk3 ?_)))
          all_goals (first | refine ar_id ?_ | (try (focus ((try refine nrmO ?_); (repeat' (first | exact True.intro | refine And.intro ?_ ?_)); all_goals (try (intro (hg_ : _ = true); (try simp only [isNilI, inB, reduceCtorEq, cds] at hg_); (repeat' (first | exact True.intro | refine And.intro ?_ ?_)))); all_goals (first | exact ob1 | exact fn_CountR _ _ _ hs hcn | exact fn_PageEntryI _ _ hse | exact fn_isMapped _ _ | exact fn_remK _ _ _ hs.m hL | skip)))))
          all_goals (try rw [hS])
          all_goals (first | rfl | (exfalso; grind))
      · have hV : pKMapOn k page other = (⟨k.Machine, k.Calls + 1, k.Refuse⟩, false) := by unfold pKMapOn pOn; rw [if_pos hC, if_neg (fun h => hQ h.2)]; rfl
        unfold modeOf at hQ
        refine fn_intro tt_ok Tryz.func149 rfl Tryz.call149 Tryz.ntmps149 Tryz.results149 rfl rfl rfl rfl ?_
        intro X ρ0 hb_ hgl_
        dsimp only [c_KMapOnI]
        try refine nrm ?_
        rw [hV]
        repeat' (refine ar_id ?_; first | refine st1 ?_ | (first | ((first | refine ar_region (id := 1) tt_ok (inps := [.call (c_CountR k ⟨k.Machine, k.Calls + 1, k.Refuse⟩ true)]) rfl ?_ ?_ | refine ar_region (id := 2) tt_ok (inps := [.call (c_PageEntryI k.Machine.Table other)]) rfl ?_ ?_ | refine ar_region (id := 3) tt_ok (inps := [.call (c_PageEntryI k.Machine.Table page), .call (c_isMapped (pPageEntry k.Machine.Table page).Mode (pPageEntry k.Machine.Table page).Frame), .call (c_isMapped (pPageEntry k.Machine.Table other).Mode (pPageEntry k.Machine.Table other).Frame)]) rfl ?_ ?_ | refine ar_region tt_ok (inps := []) rfl ?_ ?_); rotate_left; (try dsimp only [c_CountR, c_PageEntryI, c_isMapped]); (try refine nrm ?_); rotate_right) | refine ret3 ?_ | refine end3 ?_) | (refine ar_cond rfl trivial ?_ ?_ <;> intro hc_ <;> (try simp only [isNilI, inB, reduceCtorEq, cds] at hc_) <;> (try (first | contradiction | (exfalso; omega)))) | refine ar_until (And.intro ?_ (wk3 ?_)))
        all_goals (first | refine ar_id ?_ | (try (focus ((try refine nrmO ?_); (repeat' (first | exact True.intro | refine And.intro ?_ ?_)); all_goals (try (intro (hg_ : _ = true); (try simp only [isNilI, inB, reduceCtorEq, cds] at hg_); (repeat' (first | exact True.intro | refine And.intro ?_ ?_)))); all_goals (first | exact ob1 | exact fn_CountR _ _ _ hs hcn | exact fn_PageEntryI _ _ hse | exact fn_isMapped _ _ | skip)))))
        all_goals (first | rfl | (exfalso; grind))
    · have hcn := count_n hC hg
      have hV : pKMapOn k page other = (⟨k.Machine, k.Calls + 1, k.Refuse⟩, false) := by unfold pKMapOn pOn; rw [if_pos hC, if_neg (fun h => hg h.1)]; rfl
      refine fn_intro tt_ok Tryz.func149 rfl Tryz.call149 Tryz.ntmps149 Tryz.results149 rfl rfl rfl rfl ?_
      intro X ρ0 hb_ hgl_
      dsimp only [c_KMapOnI]
      try refine nrm ?_
      rw [hV]
      repeat' (refine ar_id ?_; first | refine st1 ?_ | (first | ((first | refine ar_region (id := 1) tt_ok (inps := [.call (c_CountR k ⟨k.Machine, k.Calls + 1, k.Refuse⟩ false)]) rfl ?_ ?_ | refine ar_region (id := 2) tt_ok (inps := [.call (c_PageEntryI k.Machine.Table other)]) rfl ?_ ?_ | refine ar_region (id := 3) tt_ok (inps := [.skip (SV.one (.lit (.int .i64 (0)))), .skip (SV.one (.lit (.bool (true)))), .skip (SV.one (.lit (.bool (true))))]) rfl ?_ ?_ | refine ar_region tt_ok (inps := []) rfl ?_ ?_); rotate_left; (try dsimp only [c_CountR, c_PageEntryI]); (try refine nrm ?_); rotate_right) | refine ret3 ?_ | refine end3 ?_) | (refine ar_cond rfl trivial ?_ ?_ <;> intro hc_ <;> (try simp only [isNilI, inB, reduceCtorEq, cds] at hc_) <;> (try (first | contradiction | (exfalso; omega)))) | refine ar_until (And.intro ?_ (wk3 ?_)))
      all_goals (first | refine ar_id ?_ | (try (focus ((try refine nrmO ?_); (repeat' (first | exact True.intro | refine And.intro ?_ ?_)); all_goals (try (intro (hg_ : _ = true); (try simp only [isNilI, inB, reduceCtorEq, cds] at hg_); (repeat' (first | exact True.intro | refine And.intro ?_ ?_)))); all_goals (first | exact ob1 | exact fn_CountR _ _ _ hs hcn | exact fn_PageEntryI _ _ hse | skip)))))
      all_goals (first | rfl | (exfalso; grind))
  · have hcn := count_no hC
    have hV : pKMapOn k page other = (k, false) := by unfold pKMapOn; rw [if_neg hC]
    refine fn_intro tt_ok Tryz.func149 rfl Tryz.call149 Tryz.ntmps149 Tryz.results149 rfl rfl rfl rfl ?_
    intro X ρ0 hb_ hgl_
    dsimp only [c_KMapOnI]
    try refine nrm ?_
    rw [hV]
    repeat' (refine ar_id ?_; first | refine st1 ?_ | (first | ((first | refine ar_region (id := 1) tt_ok (inps := [.call (c_CountR k k false)]) rfl ?_ ?_ | refine ar_region (id := 2) tt_ok (inps := [.call (c_PageEntryI k.Machine.Table other)]) rfl ?_ ?_ | refine ar_region (id := 3) tt_ok (inps := [.skip (SV.one (.lit (.int .i64 (0)))), .skip (SV.one (.lit (.bool (true)))), .skip (SV.one (.lit (.bool (true))))]) rfl ?_ ?_ | refine ar_region tt_ok (inps := []) rfl ?_ ?_); rotate_left; (try dsimp only [c_CountR, c_PageEntryI]); (try refine nrm ?_); rotate_right) | refine ret3 ?_ | refine end3 ?_) | (refine ar_cond rfl trivial ?_ ?_ <;> intro hc_ <;> (try simp only [isNilI, inB, reduceCtorEq, cds] at hc_) <;> (try (first | contradiction | (exfalso; omega)))) | refine ar_until (And.intro ?_ (wk3 ?_)))
    all_goals (first | refine ar_id ?_ | (try (focus ((try refine nrmO ?_); (repeat' (first | exact True.intro | refine And.intro ?_ ?_)); all_goals (try (intro (hg_ : _ = true); (try simp only [isNilI, inB, reduceCtorEq, cds] at hg_); (repeat' (first | exact True.intro | refine And.intro ?_ ?_)))); all_goals (first | exact ob1 | exact fn_CountR _ _ _ hs hcn | exact fn_PageEntryI _ _ hse | skip)))))
    all_goals (first | rfl | (exfalso; grind))
theorem self_on {t : GTable} {page : Int} {e : GEntry} (hs : okSet t page e) (he : e.Mode ≠ 0) : ¬ ((pPagesOn (pSetPage t page e).1 e.Frame).length : Int) = 0 := by
  have h : 0 < (pPagesOn (pSetPage t page e).1 e.Frame).length := by
    rw [setP hs]
    unfold pPagesOn
    rw [onFrame_pos]
    exact ⟨e, List.mem_of_getElem? (set_at (by have := hs.1; omega)), he, rfl⟩
  omega
def c_KProtectI (k : GKernel) (page mode : Int) : CFD := ⟨147, [.agg [ro 33 1 eIntS k.Machine.Frames.Cells, ro 4 1 Tr.eB k.Machine.Frames.Used, ro 45 2 eEntry k.Machine.Table.Entries, (CV.lit (.int .i64 (k.Calls))), ro 3 1 Tr.eI k.Refuse], (SV.one (.lit (.int .i64 (page)))), (SV.one (.lit (.int .i64 (mode))))], [], .tup [.agg [.hd 0, .hd 1, .hd 2, (CV.lit (.int .i64 (((pKProtect k page mode).1).Calls))), .hd 3], (SV.one (.lit (.bool ((pKProtect k page mode).2))))], [(0, some (.row 33 1 (((pKProtect k page mode).1).Machine.Frames.Cells.map eIntS))), (1, some (.row 4 1 (((pKProtect k page mode).1).Machine.Frames.Used.map Tr.eB))), (2, some (.row 45 2 (((pKProtect k page mode).1).Machine.Table.Entries.map eEntry))), (3, some (.row 3 1 (((pKProtect k page mode).1).Refuse.map Tr.eI)))], [0, 1, 2, 3], []⟩
set_option maxHeartbeats 4000000 in
theorem fn_KProtectI (k : GKernel) (page mode : Int) (hs : szK k) : Fn Tryz.prog (c_KProtectI k page mode) := by
  have hse := hs.m.e
  by_cases hC : canCall k
  · have hok : okM k.Machine := hC.1.1
    by_cases hg : granted k
    · have hcn := count_y hC hg
      by_cases hQ : modeOf k page ≠ 0 ∧ (1 ≤ mode ∧ mode ≤ 2)
      · obtain ⟨h1, h2⟩ := hQ
        have hp := (modeI_in h1).1
        obtain ⟨fo, hfo, _⟩ := okM_entry hok h1
        have hset : okSet k.Machine.Table page ⟨mode, (pPageEntry k.Machine.Table page).Frame⟩ := ⟨hp, .inr ⟨by show mode = 1 ∨ mode = 2; omega, by show 0 ≤ (pPageEntry k.Machine.Table page).Frame; omega⟩⟩
        have hS := setP hset
        have hL := self_on hset (show mode ≠ 0 by omega)
        unfold modeOf at h1
        have hV : pKProtect k page mode = (⟨⟨k.Machine.Frames, ⟨k.Machine.Table.Entries.set page.toNat ⟨mode, (pPageEntry k.Machine.Table page).Frame⟩⟩⟩, k.Calls + 1, k.Refuse⟩, true) := by
          unfold pKProtect pProtect modeOf
          rw [if_pos hC, if_pos ⟨hg, h1, h2⟩]; rfl
        refine fn_intro tt_ok Tryz.func147 rfl Tryz.call147 Tryz.ntmps147 Tryz.results147 rfl rfl rfl rfl ?_
        intro X ρ0 hb_ hgl_
        dsimp only [c_KProtectI]
        try refine nrm ?_
        rw [hV]
        repeat' (refine ar_id ?_; first | refine st1 ?_ | (first | ((first | refine ar_region (id := 1) tt_ok (inps := [.call (c_CountR k ⟨k.Machine, k.Calls + 1, k.Refuse⟩ true)]) rfl ?_ ?_ | refine ar_region (id := 2) tt_ok (inps := [.call (c_PageEntryI k.Machine.Table page)]) rfl ?_ ?_ | refine ar_region (id := 3) tt_ok (inps := [.call (c_isMapped (pPageEntry k.Machine.Table page).Mode (pPageEntry k.Machine.Table page).Frame)]) rfl ?_ ?_ | refine ar_region (id := 5) tt_ok (inps := [.call (c_remK k.Machine page ⟨mode, (pPageEntry k.Machine.Table page).Frame⟩)]) rfl ?_ ?_ | refine ar_region tt_ok (inps := []) rfl ?_ ?_); rotate_left; (try dsimp only [c_CountR, c_PageEntryI, c_isMapped, c_remK]); (try refine nrm ?_); rotate_right) | refine ret3 ?_ | refine end3 ?_) | (refine ar_cond rfl trivial ?_ ?_ <;> intro hc_ <;> (try simp only [isNilI, inB, reduceCtorEq, cds] at hc_) <;> (try (first | contradiction | (exfalso; omega)))) | refine ar_until (And.intro ?_ (wk3 ?_)))
        all_goals (first | refine ar_id ?_ | (try (focus ((try refine nrmO ?_); (repeat' (first | exact True.intro | refine And.intro ?_ ?_)); all_goals (try (intro (hg_ : _ = true); (try simp only [isNilI, inB, reduceCtorEq, cds] at hg_); (repeat' (first | exact True.intro | refine And.intro ?_ ?_)))); all_goals (first | exact ob1 | exact fn_CountR _ _ _ hs hcn | exact fn_PageEntryI _ _ hse | exact fn_isMapped _ _ | exact fn_remK _ _ _ hs.m hL | skip)))))
        all_goals (try rw [hS])
        all_goals (first | rfl | (exfalso; grind))
      · have hV : pKProtect k page mode = (⟨k.Machine, k.Calls + 1, k.Refuse⟩, false) := by unfold pKProtect pProtect; rw [if_pos hC, if_neg (fun h => hQ h.2)]; rfl
        unfold modeOf at hQ
        refine fn_intro tt_ok Tryz.func147 rfl Tryz.call147 Tryz.ntmps147 Tryz.results147 rfl rfl rfl rfl ?_
        intro X ρ0 hb_ hgl_
        dsimp only [c_KProtectI]
        try refine nrm ?_
        rw [hV]
        repeat' (refine ar_id ?_; first | refine st1 ?_ | (first | ((first | refine ar_region (id := 1) tt_ok (inps := [.call (c_CountR k ⟨k.Machine, k.Calls + 1, k.Refuse⟩ true)]) rfl ?_ ?_ | refine ar_region (id := 2) tt_ok (inps := [.call (c_PageEntryI k.Machine.Table page)]) rfl ?_ ?_ | refine ar_region (id := 3) tt_ok (inps := [.call (c_isMapped (pPageEntry k.Machine.Table page).Mode (pPageEntry k.Machine.Table page).Frame)]) rfl ?_ ?_ | refine ar_region tt_ok (inps := []) rfl ?_ ?_); rotate_left; (try dsimp only [c_CountR, c_PageEntryI, c_isMapped]); (try refine nrm ?_); rotate_right) | refine ret3 ?_ | refine end3 ?_) | (refine ar_cond rfl trivial ?_ ?_ <;> intro hc_ <;> (try simp only [isNilI, inB, reduceCtorEq, cds] at hc_) <;> (try (first | contradiction | (exfalso; omega)))) | refine ar_until (And.intro ?_ (wk3 ?_)))
        all_goals (first | refine ar_id ?_ | (try (focus ((try refine nrmO ?_); (repeat' (first | exact True.intro | refine And.intro ?_ ?_)); all_goals (try (intro (hg_ : _ = true); (try simp only [isNilI, inB, reduceCtorEq, cds] at hg_); (repeat' (first | exact True.intro | refine And.intro ?_ ?_)))); all_goals (first | exact ob1 | exact fn_CountR _ _ _ hs hcn | exact fn_PageEntryI _ _ hse | exact fn_isMapped _ _ | skip)))))
        all_goals (first | rfl | (exfalso; grind))
    · have hcn := count_n hC hg
      have hV : pKProtect k page mode = (⟨k.Machine, k.Calls + 1, k.Refuse⟩, false) := by unfold pKProtect pProtect; rw [if_pos hC, if_neg (fun h => hg h.1)]; rfl
      refine fn_intro tt_ok Tryz.func147 rfl Tryz.call147 Tryz.ntmps147 Tryz.results147 rfl rfl rfl rfl ?_
      intro X ρ0 hb_ hgl_
      dsimp only [c_KProtectI]
      try refine nrm ?_
      rw [hV]
      repeat' (refine ar_id ?_; first | refine st1 ?_ | (first | ((first | refine ar_region (id := 1) tt_ok (inps := [.call (c_CountR k ⟨k.Machine, k.Calls + 1, k.Refuse⟩ false)]) rfl ?_ ?_ | refine ar_region (id := 2) tt_ok (inps := [.call (c_PageEntryI k.Machine.Table page)]) rfl ?_ ?_ | refine ar_region (id := 3) tt_ok (inps := [.skip (SV.one (.lit (.bool (true))))]) rfl ?_ ?_ | refine ar_region tt_ok (inps := []) rfl ?_ ?_); rotate_left; (try dsimp only [c_CountR, c_PageEntryI]); (try refine nrm ?_); rotate_right) | refine ret3 ?_ | refine end3 ?_) | (refine ar_cond rfl trivial ?_ ?_ <;> intro hc_ <;> (try simp only [isNilI, inB, reduceCtorEq, cds] at hc_) <;> (try (first | contradiction | (exfalso; omega)))) | refine ar_until (And.intro ?_ (wk3 ?_)))
      all_goals (first | refine ar_id ?_ | (try (focus ((try refine nrmO ?_); (repeat' (first | exact True.intro | refine And.intro ?_ ?_)); all_goals (try (intro (hg_ : _ = true); (try simp only [isNilI, inB, reduceCtorEq, cds] at hg_); (repeat' (first | exact True.intro | refine And.intro ?_ ?_)))); all_goals (first | exact ob1 | exact fn_CountR _ _ _ hs hcn | exact fn_PageEntryI _ _ hse | skip)))))
      all_goals (first | rfl | (exfalso; grind))
  · have hcn := count_no hC
    have hV : pKProtect k page mode = (k, false) := by unfold pKProtect; rw [if_neg hC]
    refine fn_intro tt_ok Tryz.func147 rfl Tryz.call147 Tryz.ntmps147 Tryz.results147 rfl rfl rfl rfl ?_
    intro X ρ0 hb_ hgl_
    dsimp only [c_KProtectI]
    try refine nrm ?_
    rw [hV]
    repeat' (refine ar_id ?_; first | refine st1 ?_ | (first | ((first | refine ar_region (id := 1) tt_ok (inps := [.call (c_CountR k k false)]) rfl ?_ ?_ | refine ar_region (id := 2) tt_ok (inps := [.call (c_PageEntryI k.Machine.Table page)]) rfl ?_ ?_ | refine ar_region (id := 3) tt_ok (inps := [.skip (SV.one (.lit (.bool (true))))]) rfl ?_ ?_ | refine ar_region tt_ok (inps := []) rfl ?_ ?_); rotate_left; (try dsimp only [c_CountR, c_PageEntryI]); (try refine nrm ?_); rotate_right) | refine ret3 ?_ | refine end3 ?_) | (refine ar_cond rfl trivial ?_ ?_ <;> intro hc_ <;> (try simp only [isNilI, inB, reduceCtorEq, cds] at hc_) <;> (try (first | contradiction | (exfalso; omega)))) | refine ar_until (And.intro ?_ (wk3 ?_)))
    all_goals (first | refine ar_id ?_ | (try (focus ((try refine nrmO ?_); (repeat' (first | exact True.intro | refine And.intro ?_ ?_)); all_goals (try (intro (hg_ : _ = true); (try simp only [isNilI, inB, reduceCtorEq, cds] at hg_); (repeat' (first | exact True.intro | refine And.intro ?_ ?_)))); all_goals (first | exact ob1 | exact fn_CountR _ _ _ hs hcn | exact fn_PageEntryI _ _ hse | skip)))))
    all_goals (first | rfl | (exfalso; grind))
end Eng
end Go.Proofs.YtlkkiopjknbomaaGreatDoor

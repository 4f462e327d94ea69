/- Lemmas for the proofs, part 5 of 5: a symbolic run of the program, and what it needs. -/
import Derived.Conc.PipeWords
import Derived.Conc.Quits
import Derived.WalkKit
import Derived.LaidEql
import Derived.Stop.Asserts
import Derived.RowKitTokens
import Derived.Stop.LaidErr
import Derived.Below
import Derived.Test.YtgeakpeodhhffaaGreatDoorRows
import Derived.Deep.DeepHandedRow
import Derived.Lib.LaidTab
import Derived.WalkSmall
import Derived.ProofKit
import Derived.OpenVars
import Derived.Test.YtgeakpeodhhffaaGreatDoorR4
namespace Go.Proofs.YtgeakpeodhhffaaGreatDoor
open Go.RowKit
set_option linter.unusedVariables false
set_option linter.unusedSimpArgs false
set_option maxRecDepth 100000
namespace Eng
open Tr
def c_isMapped (md fr : Int) : CFD := ⟨87, [.agg [(CV.lit (.int .i64 (md))), (CV.lit (.int .i64 (fr)))]], [], (TV.sv (.one (.lit (.bool (md != 0))))), [], [], []⟩
theorem fn_isMapped (md fr : Int) : Fn Tryz.prog (c_isMapped md fr) := by
  refine fn_intro tt_ok Tryz.func87 rfl Tryz.call87 Tryz.ntmps87 Tryz.results87 rfl rfl rfl rfl ?_
  intro X ρ0 hb_ hgl_
  dsimp only [c_isMapped]
  try refine nrm ?_
  repeat' (refine ar_id ?_; first | refine st1 ?_ | (first | ((first | refine ar_region tt_ok (inps := []) rfl ?_ ?_); rotate_left; (try refine nrm ?_); rotate_right) | refine ret3 ?_ | refine end3 ?_) | (refine ar_cond rfl trivial ?_ ?_ <;> intro hc_ <;> (try simp only [isNilI, inB, reduceCtorEq, cds] at hc_) <;> (try (first | contradiction | (exfalso; omega)))) | refine ar_until (And.intro ?_ (wk3 ?_)))
  all_goals (first | refine ar_id ?_ | (try (focus ((try refine nrmO ?_); (repeat' (first | exact True.intro | refine And.intro ?_ ?_)); all_goals (try (intro (hg_ : _ = true); (try simp only [isNilI, inB, reduceCtorEq, cds] at hg_); (repeat' (first | exact True.intro | refine And.intro ?_ ?_)))); all_goals (first | exact ob1 | skip)))))
def okA (md fr : Int) : Prop := (md = 0 ∧ fr = 0) ∨ ((md = 1 ∨ md = 2) ∧ 0 ≤ fr)
instance (md fr : Int) : Decidable (okA md fr) := by unfold okA; infer_instance
def c_entryOk (md fr : Int) : CFD := ⟨153, [.agg [(CV.lit (.int .i64 (md))), (CV.lit (.int .i64 (fr)))]], [], (TV.sv (.one (.lit (.bool (decide (okA md fr)))))), [], [], []⟩
theorem fn_entryOk (md fr : Int) : Fn Tryz.prog (c_entryOk md fr) := by
  refine fn_intro tt_ok Tryz.func153 rfl Tryz.call153 Tryz.ntmps153 Tryz.results153 rfl rfl rfl rfl ?_
  intro X ρ0 hb_ hgl_
  dsimp only [c_entryOk]
  try refine nrm ?_
  repeat' (refine ar_id ?_; first | refine st1 ?_ | (first | ((first | refine ar_region (id := 1) tt_ok (inps := [.call (c_isMapped md fr)]) rfl ?_ ?_ | refine ar_region tt_ok (inps := []) rfl ?_ ?_); rotate_left; (try dsimp only [c_isMapped]); (try refine nrm ?_); rotate_right) | refine ret3 ?_ | refine end3 ?_) | (refine ar_cond rfl trivial ?_ ?_ <;> intro hc_ <;> (try simp only [isNilI, inB, reduceCtorEq, cds] at hc_) <;> (try (first | contradiction | (exfalso; omega)))) | refine ar_until (And.intro ?_ (wk3 ?_)))
  all_goals (first | refine ar_id ?_ | (try (focus ((try refine nrmO ?_); (repeat' (first | exact True.intro | refine And.intro ?_ ?_)); all_goals (try (intro (hg_ : _ = true); (try simp only [isNilI, inB, reduceCtorEq, cds] at hg_); (repeat' (first | exact True.intro | refine And.intro ?_ ?_)))); all_goals (first | exact ob1 | exact fn_isMapped _ _ | skip)))))
  · refine congrArg Value.bool ?_
    subst hc_
    by_cases h : fr = 0
    · subst h; rfl
    · simp [okA, h]
  · refine congrArg Value.bool ?_
    simp only [okA, cond_ite]
    rw [Bool.eq_iff_iff]
    split <;> split <;> simp_all <;> omega
def c_TableOkI (t : GTable) (frames : Int) : CFD := ⟨124, [.agg [ro 47 2 eEntry t.Entries], (SV.one (.lit (.int .i64 (frames))))], [], (TV.sv (.one (.lit (.bool (pTableOk t frames))))), [], [], []⟩
theorem fn_TableOkI (t : GTable) (frames : Int) (hl : t.Entries.length ≤ 1048576) : Fn Tryz.prog (c_TableOkI t frames) := by
  refine fn_intro tt_ok Tryz.func124 rfl Tryz.call124 Tryz.ntmps124 Tryz.results124 rfl rfl rfl rfl ?_
  intro X ρ0 hb_ hgl_
  dsimp only [c_TableOkI]
  try refine nrm ?_
  repeat' (refine ar_id ?_; first | refine st1 ?_ | (first | ((first | refine ar_region tt_ok (inps := []) rfl ?_ ?_); rotate_left; (try refine nrm ?_); rotate_right) | refine ret3 ?_ | refine end3 ?_) | (refine ar_cond rfl trivial ?_ ?_ <;> intro hc_ <;> (try simp only [isNilI, inB, reduceCtorEq, cds] at hc_) <;> (try (first | contradiction | (exfalso; omega)))) | refine ar_until (And.intro ?_ (wk3 ?_)))
  all_goals (first | refine ar_id ?_ | (try (focus ((try refine nrmO ?_); (repeat' (first | exact True.intro | refine And.intro ?_ ?_)); all_goals (try (intro (hg_ : _ = true); (try simp only [isNilI, inB, reduceCtorEq, cds] at hg_); (repeat' (first | exact True.intro | refine And.intro ?_ ?_)))); all_goals (first | exact ob1 | skip)))))
  · exact bf fun h => by have := h.2; omega
  have hlen := hc_
  refine ar_keep 1835095 (by dsimp only [keepS] <;> exact rfl) ?_
  refine ar_forM (t.Entries.length) (fun i => ∀ e ∈ t.Entries.take i, okE frames e) (fun i => [(20, (TV.sv (.one (.lit (.int .i64 (i))))))]) (fun i => []) ?_ ?_ ?_
  rotate_left
  · first | trivial | simp
  (dsimp only [rnCap, capSVs, Int.toNat_natCast, ro, Nat.reduceAdd, Nat.reduceMul, Nat.zero_add, List.map, putT, app, wrapG, gOb, argT, keys, slotOf, dropped, gAnd, wB, rnT, rnS, rnC, rnCs, rnSs, rnM, rnB, rnN, rn, lk, St.over, ded, delL, keepT, menT, menSs, menS, menCs, menC, hasN, resT, SV.cells]; refine wk3 ?_; (focus ((try refine nrmO ?_); (repeat' (first | exact True.intro | refine And.intro ?_ ?_)); all_goals (try (intro (hg_ : _ = true); (try simp only [isNilI, inB, reduceCtorEq, cds] at hg_); (repeat' (first | exact True.intro | refine And.intro ?_ ?_)))); all_goals (first | exact ob1 | exact rfl | skip))))
  rotate_right
  intro i hi_ hiI_
  dsimp only [rnCap, capSVs, Int.toNat_natCast, ro, Nat.reduceAdd, Nat.reduceMul, Nat.zero_add, List.map, putT, app, wrapG, gOb, argT, keys, slotOf, dropped, gAnd, wB, rnT, rnS, rnC, rnCs, rnSs, rnM, rnB, rnN, rn, lk, St.over, ded, delL, keepT, menT, menSs, menS, menCs, menC, hasN, resT, SV.cells]
  repeat' (refine ar_id ?_; first | refine st1 ?_ | (first | ((first | refine ar_region (id := 5) tt_ok (inps := [.elem (eEntry (t.Entries.getD i ⟨0, 0⟩))]) rfl ?_ ?_ | refine ar_region (id := 6) tt_ok (inps := [.call (c_entryOk (t.Entries.getD i ⟨0, 0⟩).Mode (t.Entries.getD i ⟨0, 0⟩).Frame), .call (c_isMapped (t.Entries.getD i ⟨0, 0⟩).Mode (t.Entries.getD i ⟨0, 0⟩).Frame)]) rfl ?_ ?_ | refine ar_region tt_ok (inps := []) rfl ?_ ?_); rotate_left; (try dsimp only [c_entryOk, c_isMapped]); (try refine nrm ?_); rotate_right) | refine ret3 ?_ | refine end3 ?_) | (refine ar_cond rfl trivial ?_ ?_ <;> intro hc_ <;> (try simp only [isNilI, inB, reduceCtorEq, cds] at hc_) <;> (try (first | contradiction | (exfalso; omega)))) | refine ar_until (And.intro ?_ (wk3 ?_)))
  all_goals (first | refine ar_id ?_ | (try (focus ((try refine nrmO ?_); (repeat' (first | exact True.intro | refine And.intro ?_ ?_)); all_goals (try (intro (hg_ : _ = true); (try simp only [isNilI, inB, reduceCtorEq, cds] at hg_); (repeat' (first | exact True.intro | refine And.intro ?_ ?_)))); all_goals (first | exact ob1 | exact fn_entryOk _ _ | exact fn_isMapped _ _ | skip)))))
  · refine bf fun h => ?_
    have := h.1 _ (getD_in (l := t.Entries) (i := i) (d := ⟨0, 0⟩) (by omega))
    unfold okE at this
    unfold okA at hc_
    omega
  · refine all_take (d := ⟨0, 0⟩) hiI_ (by omega) ?_
    unfold okE
    unfold okA at hc_
    omega
  · exact bt ⟨all_full hiI_ (by omega), by omega, by omega⟩
def c_pageExists (t : GTable) (page : Int) : CFD := ⟨119, [.agg [ro 47 2 eEntry t.Entries], (SV.one (.lit (.int .i64 (page))))], [], (TV.sv (.one (.lit (.bool (decide (0 ≤ page ∧ page < (t.Entries.length : Int))))))), [], [], []⟩
theorem fn_pageExists (t : GTable) (page : Int) (hl : t.Entries.length ≤ 1048576) : Fn Tryz.prog (c_pageExists t page) := by
  refine fn_intro tt_ok Tryz.func119 rfl Tryz.call119 Tryz.ntmps119 Tryz.results119 rfl rfl rfl rfl ?_
  intro X ρ0 hb_ hgl_
  dsimp only [c_pageExists]
  try refine nrm ?_
  repeat' (refine ar_id ?_; first | refine st1 ?_ | (first | ((first | refine ar_region tt_ok (inps := []) rfl ?_ ?_); rotate_left; (try refine nrm ?_); rotate_right) | refine ret3 ?_ | refine end3 ?_) | (refine ar_cond rfl trivial ?_ ?_ <;> intro hc_ <;> (try simp only [isNilI, inB, reduceCtorEq, cds] at hc_) <;> (try (first | contradiction | (exfalso; omega)))) | refine ar_until (And.intro ?_ (wk3 ?_)))
  all_goals (first | refine ar_id ?_ | (try (focus ((try refine nrmO ?_); (repeat' (first | exact True.intro | refine And.intro ?_ ?_)); all_goals (try (intro (hg_ : _ = true); (try simp only [isNilI, inB, reduceCtorEq, cds] at hg_); (repeat' (first | exact True.intro | refine And.intro ?_ ?_)))); all_goals (first | exact ob1 | skip)))))
  refine congrArg Value.bool ?_
  rw [cond_ite, Bool.eq_iff_iff]
  split <;> simp_all <;> omega
def c_PageEntryI (t : GTable) (page : Int) : CFD := ⟨83, [.agg [ro 47 2 eEntry t.Entries], (SV.one (.lit (.int .i64 (page))))], [], .sv (.agg [(CV.lit (.int .i64 ((pPageEntry t page).Mode))), (CV.lit (.int .i64 ((pPageEntry t page).Frame)))]), [], [], []⟩
theorem fn_PageEntryI (t : GTable) (page : Int) (hl : t.Entries.length ≤ 1048576) : Fn Tryz.prog (c_PageEntryI t page) := by
  refine fn_intro tt_ok Tryz.func83 rfl Tryz.call83 Tryz.ntmps83 Tryz.results83 rfl rfl rfl rfl ?_
  intro X ρ0 hb_ hgl_
  dsimp only [c_PageEntryI]
  try refine nrm ?_
  repeat' (refine ar_id ?_; first | refine st1 ?_ | (first | ((first | refine ar_region (id := 1) tt_ok (inps := [.call (c_pageExists t page)]) rfl ?_ ?_ | refine ar_region (id := 3) tt_ok (inps := [.elem (eEntry (t.Entries.getD page.toNat ⟨0, 0⟩))]) rfl ?_ ?_ | refine ar_region tt_ok (inps := []) rfl ?_ ?_); rotate_left; (try dsimp only [c_pageExists]); (try refine nrm ?_); rotate_right) | refine ret3 ?_ | refine end3 ?_) | (refine ar_cond rfl trivial ?_ ?_ <;> intro hc_ <;> (try simp only [isNilI, inB, reduceCtorEq, cds] at hc_) <;> (try (first | contradiction | (exfalso; omega)))) | refine ar_until (And.intro ?_ (wk3 ?_)))
  all_goals (first | refine ar_id ?_ | (try (focus ((try refine nrmO ?_); (repeat' (first | exact True.intro | refine And.intro ?_ ?_)); all_goals (try (intro (hg_ : _ = true); (try simp only [isNilI, inB, reduceCtorEq, cds] at hg_); (repeat' (first | exact True.intro | refine And.intro ?_ ?_)))); all_goals (first | exact ob1 | exact fn_pageExists _ _ hl | skip)))))
  all_goals unfold pPageEntry
  · rw [if_neg hc_]
  · rw [if_neg hc_]
  · rw [if_pos hc_]
  · rw [if_pos hc_]
end Eng
end Go.Proofs.YtgeakpeodhhffaaGreatDoor
namespace Go.Proofs.YtgeakpeodhhffaaGreatDoor
open Go Go.Conc
set_option linter.unusedVariables false
set_option linter.unusedSimpArgs false
namespace Co
def EvR (e : Event) : Prop := (∀ m, e.loc = .mark m → Neutral m) ∧ e.write = false
theorem EvR.toP {Pt : Nat → Prop} {e : Event} (h : EvR e) : EvP Pt e := ⟨h.1, fun hw => by rw [h.2] at hw; cases hw⟩
/-- a step that leaves the world as0 it is -/
def DQ (w w' : World) (es : Array Event) : Prop := w' = w ∧ ∀ e ∈ es, EvR e
/-- at the return -/
def Leave (P : Program) (f : FuncId) (v : Value) (cs : List Frame) (g : Goroutine) (_ : World) : Prop :=
  ∃ fr fn, g = G fr cs ∧ fr.fn = f ∧ fr.mode = .returning ∧ fr.defers = [] ∧ fr.kind = .normal ∧ P.funcs[f]? = some fn ∧ ∀ w₁, (results fn fr.tmps).run P w₁ = .ok v w₁
theorem goes_run {P : Program} {H Pt : Nat → Prop} (M : Sys P H Pt) {S : World → Prop} (hS : ∀ w w₁, Aside H w w₁ → S w → S w₁) {Stop : Goroutine → World → Prop} (hst : ∀ g w, S w → Stop g w → M.Run g w) : ∀ (n : Nat) (g : Goroutine) (w : World), S w → Goes P true (fun _ w₁ => S w₁) DQ Stop n g w → M.Run g w
  | 0, g, w, hw, h => hst g w hw (h w hw)
  | n + 1, g, w, hw, h => by
    rcases h with h | ⟨hs, h⟩
    · exact hst g w hw (h w hw)
    · refine M.step hs fun w₁ h₁ => ?_
      have hw₁ := hS _ _ (M.sub h₁) hw
      obtain ⟨g', w', es, e, ⟨rfl, hes⟩, h'⟩ := goes_elim (h w₁ hw₁)
      exact ⟨g', w', es, e, fun _ => ⟨fun _ _ => rfl, fun ev hev => (hes ev hev).toP⟩, goes_run M hS hst n g' w' hw₁ h'⟩
/-- the function, alone or in company -/
def StillG (P : Program) (f : FuncId) (args : Array Value) (S : World → Prop) (v : Value) : Prop := ∀ cs w, ∃ n, Goes P true (fun _ w₁ => S w₁) DQ (Leave P f v cs) n (G (Frame.enter P f args .normal) cs) w
theorem calls_still {P : Program} {H Pt : Nat → Prop} {f : FuncId} {args : Array Value} {S : World → Prop} {v : Value} {w : World} {R : Ending → World → Prop} (h : StillG P f args S v) (hS : ∀ w w₁, Aside H w w₁ → S w → S w₁) (hw : S w) (hR : ∀ w₁, Aside H w w₁ → R (.returned v) w₁) : CallsK P H Pt f args w R := by
  intro M cs hc
  obtain ⟨n, hn⟩ := h cs w
  let S' : World → Prop := fun w₁ => Aside H w w₁ ∧ S w₁
  have hn' : ∀ (n : Nat) (g : Goroutine) (w : World), Goes P true (fun _ w₁ => S w₁) DQ (Leave P f v cs) n g w → Goes P true (fun _ w₁ => S' w₁) DQ (Leave P f v cs) n g w := by
    intro n
    induction n with
    | zero => exact fun g w h w₁ h₁ => h w₁ h₁.2
    | succ n ih =>
      intro g w h
      rcases h with h | ⟨hs, h⟩
      · exact .inl fun w₁ h₁ => h w₁ h₁.2
      · refine .inr ⟨hs, fun w₁ h₁ => ?_⟩
        have := h w₁ h₁.2
        revert this
        cases stepG P true g w₁ <;> simp only [GStep.goes, imp_self]
        exact fun ⟨d, x⟩ => ⟨d, ih _ _ x⟩
  refine goes_run M (S := S') (fun w1 w2 h12 h => ⟨h.1.trans h12, hS _ _ h12 h.2⟩) (fun g w1 hS1 hst => ?_) n _ w ⟨Aside.refl _ _, hw⟩ (hn' n _ w hn)
  obtain ⟨fr, fn, rfl, h1, h2, h3, h4, h5, h6⟩ := hst
  exact hc fr w1 h1 ⟨h2, h3, h4, fn, by rw [h1]; exact h5, fun w₁ hr => ⟨v, h6 w₁, hR w₁ (hS1.1.trans (M.sub hr))⟩⟩
end Co
end Go.Proofs.YtgeakpeodhhffaaGreatDoor
namespace Go.Proofs.YtgeakpeodhhffaaGreatDoor
open Go.RowKit Go.Extern.Stop Go.Stop Go.Extern Go.Conc
set_option linter.unusedVariables false
set_option linter.unusedSimpArgs false
namespace Co
theorem noE {e : Event} {p : Prop} (h : e ∈ (#[] : Array Event)) : p := by simp at h
/-- it reads, or says which entry it has come to -/
def EvX (e : Event) : Prop := EvR e ∨ ∃ f, e.loc = .mark (.extern f)
def okX (e : Event) : Bool := match e.loc with | .mark (.extern _) => true | .mark _ => false | _ => !e.write
theorem evX_of {e : Event} (h : okX e = true) : EvX e := by
  unfold okX at h
  split at h
  · rename_i f hf; exact .inr ⟨f, hf⟩
  · cases h
  · rename_i h1 h2
    exact .inl ⟨fun m hm => absurd hm (h2 m), by simpa using h⟩
theorem evsX {es : Array Event} (h : es.all okX = true) : ∀ e ∈ es, EvX e := fun e he => evX_of (Array.all_eq_true'.1 h e he)
theorem seen_fold_ne (quiet : FuncId → Bool) : ∀ (l : List Event) (q : Bool) (kept : Array Event), (∀ e ∈ kept, ∀ f, e.loc ≠ .mark (.extern f)) → ∀ e ∈ (l.foldl (seenStep quiet) (q, kept)).2, ∀ f, e.loc ≠ .mark (.extern f) := by
  intro l
  induction l with
  | nil => exact fun _ _ h => h
  | cons a l ih =>
    intro q kept hk e h
    simp only [List.foldl_cons, seenStep] at h
    split at h
    · exact ih _ _ hk e h
    · rename_i hne
      refine ih _ _ ?_ e h
      split
      · exact hk
      · intro e he
        rcases Array.mem_push.1 he with h | rfl
        · exact hk e h
        · exact fun f hf => hne f hf
theorem listed_R {P : Program} {fn : FuncId} {a : Act} {o : Oper} {w : World} (h : ∀ e ∈ (execOp a.eval o).events P w #[], EvX e) : ∀ e ∈ listed P fn a o w, EvR e := by
  intro e he
  rcases h e (mem_listed he) with h | ⟨f, hf⟩
  · exact h
  · unfold listed at he
    rw [seen_def] at he
    exact absurd hf (seen_fold_ne _ _ _ #[] (by simp) e he f)
section
variable {P : Program} {S : World → Prop} {Stop : Goroutine → World → Prop} {n : Nat} {b : Frame} {a a' : Act} {k : List Item} {cs : List Frame} {ops : Array Oper} {i : Nat} {rest : List Nat} {o : Oper} {w : World} {v : Value}
theorem op_q (ho : ops[i]? = some o) (hw : Region.wanted o (yielded ops a.tmps) = true) (hk : b.kind ≠ .early) (hr : ∀ w₁, S w₁ → (execOp a.eval o).run P w₁ = .ok (.value v) w₁) (he : ∀ w₁, S w₁ → ∀ e ∈ (execOp a.eval o).events P w₁ #[], EvX e) (ha : a.put o.dst v = a')
    (h : ∀ w₁, Goes P true (fun _ w₁ => S w₁) DQ Stop n (G (b.at a' (.inRegion ops rest :: k)) cs) w₁) : Goes P true (fun _ w₁ => S w₁) DQ Stop (n + 1) (G (b.at a (.inRegion ops (i :: rest) :: k)) cs) w := by
  subst ha
  refine Goes.step rfl fun w₁ h₁ => ?_
  rw [stepG_value ho hw hk (hr w₁ h₁)]
  exact ⟨⟨rfl, listed_R (he w₁ h₁)⟩, h w₁⟩
theorem enter_q {f : FuncId} {args : Array Value} (ho : ops[i]? = some o) (hw : Region.wanted o (yielded ops a.tmps) = true) (hk : b.kind ≠ .early) (hr : ∀ w₁, S w₁ → (execOp a.eval o).run P w₁ = .ok (.enter f args) w₁) (he : ∀ w₁, S w₁ → ∀ e ∈ (execOp a.eval o).events P w₁ #[], EvX e)
    (h : ∀ w₁, Goes P true (fun _ w₁ => S w₁) DQ Stop n (G (Frame.enter P f args .normal) (b.at a (.inRegion ops (i :: rest) :: k) :: cs)) w₁) : Goes P true (fun _ w₁ => S w₁) DQ Stop (n + 1) (G (b.at a (.inRegion ops (i :: rest) :: k)) cs) w := by
  refine Goes.step rfl fun w₁ h₁ => ?_
  rw [stepG_enter ho hw hk (hr w₁ h₁)]
  exact ⟨⟨rfl, listed_R (he w₁ h₁)⟩, h w₁⟩
theorem ret_q (h : ∀ todo w₁, Goes P true (fun _ w₁ => S w₁) DQ Stop n (G { b.at a todo with mode := .returning } cs) w₁) : Goes P true (fun _ w₁ => S w₁) DQ Stop (n + 1) (G (b.at a (.code .ret :: k)) cs) w := by
  refine Goes.step rfl fun w₁ h₁ => ?_
  rw [stepG_ret']
  exact ⟨⟨rfl, by simp⟩, h _ w₁⟩
theorem leave_q {b₀ : Frame} {a₀ : Act} {fn : Func} {todo : List Item} (hn : b.kind = .normal) (hd : a.defers = []) (hf : P.funcs[b.fn]? = some fn) (hr : ∀ w₁, (results fn a.tmps).run P w₁ = .ok v w₁) (he : ∀ w₁, (results fn a.tmps).events P w₁ #[] = #[]) (ha : a₀.put ((ops[i]?).bind (·.dst)) v = a')
    (h : ∀ w₁, Goes P true (fun _ w₁ => S w₁) DQ Stop n (G (b₀.at a' (.inRegion ops rest :: k)) cs) w₁) : Goes P true (fun _ w₁ => S w₁) DQ Stop (n + 1) (G { b.at a todo with mode := .returning } (b₀.at a₀ (.inRegion ops (i :: rest) :: k) :: cs)) w := by
  subst ha
  refine Goes.step rfl fun w₁ h₁ => ?_
  rw [stepG_leave hn hd hf (hr w₁) (he w₁), Frame.finish_at]
  exact ⟨⟨rfl, by simp⟩, h w₁⟩
end
end Co
namespace IsG
open Co
theorem bin_run {P : Program} {s : Sem Value} {v : Value} {w : World} (h : s.run P w = .ok v w) : (do pure (.value (← s)) : Sem Next).run P w = .ok (.value v) w := by simp [Sem.run_bind, h]
theorem bin_ev {P : Program} {s : Sem Value} {w : World} (h : ∀ e ∈ s.events P w #[], EvX e) : ∀ e ∈ (do pure (.value (← s)) : Sem Next).events P w #[], EvX e := by
  have : (do pure (.value (← s)) : Sem Next).events P w #[] = s.events P w #[] := by
    rw [Sem.events_bind]
    cases s.run P w <;> rfl
  rw [this]; exact h
theorem lit22 (X Y : Value) : #[X, Y] ++ Array.replicate 20 undef = #[X, Y, undef, undef, undef, undef, undef, undef, undef, undef, undef, undef, undef, undef, undef, undef, undef, undef, undef, undef, undef, undef] := by
  apply Array.toList_inj.1
  simp [List.replicate]
theorem lit54 (X Y Z : Value) : #[X, Y, Z] ++ Array.replicate 51 undef = #[X, Y, Z, undef, undef, undef, undef, undef, undef, undef, undef, undef, undef, undef, undef, undef, undef, undef, undef, undef, undef, undef, undef, undef, undef, undef, undef, undef, undef, undef, undef, undef, undef, undef, undef, undef, undef, undef, undef, undef, undef, undef, undef, undef, undef, undef, undef, undef, undef, undef, undef, undef, undef, undef] := by
  apply Array.toList_inj.1
  simp [List.replicate]
theorem typeOf (v : Value) (w : World) : (Extern.ReflectliteType.typeOf #[.iface 196 v]).run Tryz.prog w = .ok (.iface 183 (.agg #[.pointer (some ⟨5, 196, none⟩)])) w := by kernel_rfl
theorem comparable (w : World) : (callFunc 176 #[.agg #[.pointer (some ⟨5, 196, none⟩)]]).run Tryz.prog w = .ok (.value (.bool true)) w := by kernel_rfl
set_option maxRecDepth 100000 in
set_option maxHeartbeats 2000000 in
theorem same (a : Addr) : StillG Tryz.prog 95 #[.iface 196 (.pointer (some a)), .iface 196 (.pointer (some a))] (fun _ => True) (.bool true) := by
  intro cs w
  obtain ⟨i, hi, hcmp⟩ := Option.map_eq_some_iff.1 (show (Tryz.prog.info? 196).map (·.comparable) = some true by kernel_rfl)
  obtain ⟨j, hj, hjs⟩ := Option.map_eq_some_iff.1 (show (Tryz.prog.info? 223).map (·.size) = some 1 by kernel_rfl)
  have h8 := @run_callFunc_extern Tryz.prog 127 _ Extern.ReflectliteType.typeOf Tryz.func127 (by kernel_rfl) (by kernel_rfl) (by kernel_rfl) (by kernel_rfl)
  have heq := fun w => run_eql_iface_ptr_same (P := Tryz.prog) w a Tryz.underlying95 Tryz.underlying196 hi hcmp hj
  have eqE : ∀ w₁ : World, ∀ e ∈ (binOp .eql 95 (Value.iface 196 (.pointer (some a))) (Value.iface 196 (.pointer (some a)))).events Tryz.prog w₁ #[], EvX e := fun w₁ e he => by
    have ht : Tame Tryz.prog (fun _ => False) (binOp .eql 95 (Value.iface 196 (.pointer (some a))) (Value.iface 196 (.pointer (some a)))) := tbinEql _ _ _ (by simp) (by simp) (by simp) (by simp)
    rcases (tame_run _ ht w₁ #[] (fun _ h => h.elim) _ _ (heq w₁)).1 e he with h | h
    · simp at h
    · refine .inl ⟨h.1, ?_⟩
      cases hw : e.write with
      | false => rfl
      | true => obtain ⟨_, _, hb⟩ := h.2 hw; exact hb.elim
  refine ⟨100, ?_⟩
  rw [show Frame.enter Tryz.prog 95 #[(Value.iface 196 (.pointer (some a))), (Value.iface 196 (.pointer (some a)))] .normal = (base 95).at ⟨#[(Value.iface 196 (.pointer (some a))), (Value.iface 196 (.pointer (some a))), undef, undef, undef, undef, undef, undef, undef, undef, undef, undef, undef, undef, undef, undef, undef, undef, undef, undef, undef, undef], []⟩ [.code (Tryz.f95.body.getD .skip)] from (enter_at #[(Value.iface 196 (.pointer (some a))), (Value.iface 196 (.pointer (some a)))] Tryz.func95 rfl).trans (by rw [← lit22]; rfl)]
  simp only [Tryz.f95, Option.getD_some]
  b_ctl
  b_ctl
  refine op_q (v := .bool false) (a' := ⟨#[(Value.iface 196 (.pointer (some a))), (Value.iface 196 (.pointer (some a))), undef, undef, .bool false, undef, undef, undef, undef, undef, undef, undef, undef, undef, undef, undef, undef, undef, undef, undef, undef, undef], []⟩) rfl rfl (by decide) (fun _ _ => rfl) (fun _ _ _ h => noE h) rfl (fun _ => ?_)
  b_ctl
  b_ctl
  b_ctl
  b_ctl
  refine op_q (v := (Value.iface 196 (.pointer (some a)))) (a' := ⟨#[(Value.iface 196 (.pointer (some a))), (Value.iface 196 (.pointer (some a))), undef, undef, .bool false, undef, (Value.iface 196 (.pointer (some a))), undef, undef, undef, undef, undef, undef, undef, undef, undef, undef, undef, undef, undef, undef, undef], []⟩) rfl rfl (by decide) (fun _ _ => rfl) (fun _ _ _ h => noE h) rfl (fun _ => ?_)
  refine op_q (v := .bool false) (a' := ⟨#[(Value.iface 196 (.pointer (some a))), (Value.iface 196 (.pointer (some a))), undef, undef, .bool false, undef, (Value.iface 196 (.pointer (some a))), .bool false, undef, undef, undef, undef, undef, undef, undef, undef, undef, undef, undef, undef, undef, undef], []⟩) rfl rfl (by decide) (fun w₁ _ => by kernel_rfl) (fun w₁ _ => evsX (by kernel_rfl)) rfl (fun _ => ?_)
  refine op_q (v := .bool false) (a' := ⟨#[(Value.iface 196 (.pointer (some a))), (Value.iface 196 (.pointer (some a))), undef, undef, .bool false, undef, (Value.iface 196 (.pointer (some a))), .bool false, .bool false, undef, undef, undef, undef, undef, undef, undef, undef, undef, undef, undef, undef, undef], []⟩) rfl rfl (by decide) (fun _ _ => rfl) (fun _ _ _ h => noE h) rfl (fun _ => ?_)
  refine op_q (v := (Value.iface 196 (.pointer (some a)))) (a' := ⟨#[(Value.iface 196 (.pointer (some a))), (Value.iface 196 (.pointer (some a))), undef, undef, .bool false, undef, (Value.iface 196 (.pointer (some a))), .bool false, .bool false, (Value.iface 196 (.pointer (some a))), undef, undef, undef, undef, undef, undef, undef, undef, undef, undef, undef, undef], []⟩) rfl rfl (by decide) (fun _ _ => rfl) (fun _ _ _ h => noE h) rfl (fun _ => ?_)
  refine op_q (v := .bool false) (a' := ⟨#[(Value.iface 196 (.pointer (some a))), (Value.iface 196 (.pointer (some a))), undef, undef, .bool false, undef, (Value.iface 196 (.pointer (some a))), .bool false, .bool false, (Value.iface 196 (.pointer (some a))), .bool false, undef, undef, undef, undef, undef, undef, undef, undef, undef, undef, undef], []⟩) rfl rfl (by decide) (fun w₁ _ => by kernel_rfl) (fun w₁ _ => evsX (by kernel_rfl)) rfl (fun _ => ?_)
  refine op_q (v := .bool false) (a' := ⟨#[(Value.iface 196 (.pointer (some a))), (Value.iface 196 (.pointer (some a))), undef, undef, .bool false, undef, (Value.iface 196 (.pointer (some a))), .bool false, .bool false, (Value.iface 196 (.pointer (some a))), .bool false, .bool false, undef, undef, undef, undef, undef, undef, undef, undef, undef, undef], []⟩) rfl rfl (by decide) (fun _ _ => rfl) (fun _ _ _ h => noE h) rfl (fun _ => ?_)
  b_ctl
  b_cond false
  b_ctl
  b_ctl
  b_ctl
  refine op_q (v := (Value.iface 196 (.pointer (some a)))) (a' := ⟨#[(Value.iface 196 (.pointer (some a))), (Value.iface 196 (.pointer (some a))), undef, undef, .bool false, undef, (Value.iface 196 (.pointer (some a))), .bool false, .bool false, (Value.iface 196 (.pointer (some a))), .bool false, .bool false, undef, undef, undef, (Value.iface 196 (.pointer (some a))), undef, undef, undef, undef, undef, undef], []⟩) rfl rfl (by decide) (fun _ _ => rfl) (fun _ _ _ h => noE h) rfl (fun _ => ?_)
  refine op_q (v := (Value.iface 183 (.agg #[.pointer (some ⟨5, 196, none⟩)]))) (a' := ⟨#[(Value.iface 196 (.pointer (some a))), (Value.iface 196 (.pointer (some a))), undef, undef, .bool false, undef, (Value.iface 196 (.pointer (some a))), .bool false, .bool false, (Value.iface 196 (.pointer (some a))), .bool false, .bool false, undef, undef, undef, (Value.iface 196 (.pointer (some a))), (Value.iface 183 (.agg #[.pointer (some ⟨5, 196, none⟩)])), undef, undef, undef, undef, undef], []⟩) rfl rfl (by decide) (fun w₁ _ => by kernel_rfl) (fun w₁ _ => evsX (by kernel_rfl)) rfl (fun _ => ?_)
  refine op_q (v := .bool true) (a' := ⟨#[(Value.iface 196 (.pointer (some a))), (Value.iface 196 (.pointer (some a))), undef, undef, .bool false, undef, (Value.iface 196 (.pointer (some a))), .bool false, .bool false, (Value.iface 196 (.pointer (some a))), .bool false, .bool false, undef, undef, undef, (Value.iface 196 (.pointer (some a))), (Value.iface 183 (.agg #[.pointer (some ⟨5, 196, none⟩)])), .bool true, undef, undef, undef, undef], []⟩) rfl rfl (by decide) (fun w₁ _ => by kernel_rfl) (fun w₁ _ => evsX (by kernel_rfl)) rfl (fun _ => ?_)
  refine op_q (v := .bool true) (a' := ⟨#[(Value.iface 196 (.pointer (some a))), (Value.iface 196 (.pointer (some a))), undef, undef, .bool false, .bool true, (Value.iface 196 (.pointer (some a))), .bool false, .bool false, (Value.iface 196 (.pointer (some a))), .bool false, .bool false, undef, undef, undef, (Value.iface 196 (.pointer (some a))), (Value.iface 183 (.agg #[.pointer (some ⟨5, 196, none⟩)])), .bool true, undef, undef, undef, undef], []⟩) rfl rfl (by decide) (fun _ _ => rfl) (fun _ _ _ h => noE h) rfl (fun _ => ?_)
  b_ctl
  b_ctl
  b_ctl
  refine op_q (v := (Value.iface 196 (.pointer (some a)))) (a' := ⟨#[(Value.iface 196 (.pointer (some a))), (Value.iface 196 (.pointer (some a))), undef, undef, .bool false, .bool true, (Value.iface 196 (.pointer (some a))), .bool false, .bool false, (Value.iface 196 (.pointer (some a))), .bool false, .bool false, undef, undef, undef, (Value.iface 196 (.pointer (some a))), (Value.iface 183 (.agg #[.pointer (some ⟨5, 196, none⟩)])), .bool true, (Value.iface 196 (.pointer (some a))), undef, undef, undef], []⟩) rfl rfl (by decide) (fun _ _ => rfl) (fun _ _ _ h => noE h) rfl (fun _ => ?_)
  refine op_q (v := (Value.iface 196 (.pointer (some a)))) (a' := ⟨#[(Value.iface 196 (.pointer (some a))), (Value.iface 196 (.pointer (some a))), undef, undef, .bool false, .bool true, (Value.iface 196 (.pointer (some a))), .bool false, .bool false, (Value.iface 196 (.pointer (some a))), .bool false, .bool false, undef, undef, undef, (Value.iface 196 (.pointer (some a))), (Value.iface 183 (.agg #[.pointer (some ⟨5, 196, none⟩)])), .bool true, (Value.iface 196 (.pointer (some a))), (Value.iface 196 (.pointer (some a))), undef, undef], []⟩) rfl rfl (by decide) (fun _ _ => rfl) (fun _ _ _ h => noE h) rfl (fun _ => ?_)
  refine op_q (v := .bool true) (a' := ⟨#[(Value.iface 196 (.pointer (some a))), (Value.iface 196 (.pointer (some a))), undef, undef, .bool false, .bool true, (Value.iface 196 (.pointer (some a))), .bool false, .bool false, (Value.iface 196 (.pointer (some a))), .bool false, .bool false, undef, undef, undef, (Value.iface 196 (.pointer (some a))), (Value.iface 183 (.agg #[.pointer (some ⟨5, 196, none⟩)])), .bool true, (Value.iface 196 (.pointer (some a))), (Value.iface 196 (.pointer (some a))), .bool true, undef], []⟩) rfl rfl (by decide) (fun _ _ => rfl) (fun _ _ _ h => noE h) rfl (fun _ => ?_)
  refine enter_q (f := 128) (args := #[(Value.iface 196 (.pointer (some a))), (Value.iface 196 (.pointer (some a))), .bool true]) rfl rfl (by decide) (fun w₁ _ => by kernel_rfl) (fun w₁ _ => evsX (by kernel_rfl)) (fun _ => ?_)
  rw [show Frame.enter Tryz.prog 128 #[(Value.iface 196 (.pointer (some a))), (Value.iface 196 (.pointer (some a))), .bool true] .normal = (base 128).at ⟨#[(Value.iface 196 (.pointer (some a))), (Value.iface 196 (.pointer (some a))), .bool true, undef, undef, undef, undef, undef, undef, undef, undef, undef, undef, undef, undef, undef, undef, undef, undef, undef, undef, undef, undef, undef, undef, undef, undef, undef, undef, undef, undef, undef, undef, undef, undef, undef, undef, undef, undef, undef, undef, undef, undef, undef, undef, undef, undef, undef, undef, undef, undef, undef, undef, undef], []⟩ [.code (Tryz.f128.body.getD .skip)] from (enter_at #[(Value.iface 196 (.pointer (some a))), (Value.iface 196 (.pointer (some a))), .bool true] Tryz.func128 rfl).trans (by rw [← lit54]; rfl)]
  simp only [Tryz.f128, Option.getD_some]
  b_ctl
  b_ctl
  refine op_q (v := .bool false) (a' := ⟨#[(Value.iface 196 (.pointer (some a))), (Value.iface 196 (.pointer (some a))), .bool true, undef, undef, undef, .bool false, undef, undef, undef, undef, undef, undef, undef, undef, undef, undef, undef, undef, undef, undef, undef, undef, undef, undef, undef, undef, undef, undef, undef, undef, undef, undef, undef, undef, undef, undef, undef, undef, undef, undef, undef, undef, undef, undef, undef, undef, undef, undef, undef, undef, undef, undef, undef], []⟩) rfl rfl (by decide) (fun _ _ => rfl) (fun _ _ _ h => noE h) rfl (fun _ => ?_)
  b_ctl
  b_ctl
  b_ctl
  b_ctl
  b_ctl
  b_ctl
  b_ctl
  refine op_q (v := .bool true) (a' := ⟨#[(Value.iface 196 (.pointer (some a))), (Value.iface 196 (.pointer (some a))), .bool true, undef, undef, undef, .bool false, undef, undef, undef, undef, undef, undef, undef, .bool true, undef, undef, undef, undef, undef, undef, undef, undef, undef, undef, undef, undef, undef, undef, undef, undef, undef, undef, undef, undef, undef, undef, undef, undef, undef, undef, undef, undef, undef, undef, undef, undef, undef, undef, undef, undef, undef, undef, undef], []⟩) rfl rfl (by decide) (fun _ _ => rfl) (fun _ _ _ h => noE h) rfl (fun _ => ?_)
  refine op_q (v := .bool true) (a' := ⟨#[(Value.iface 196 (.pointer (some a))), (Value.iface 196 (.pointer (some a))), .bool true, undef, undef, undef, .bool false, undef, undef, undef, undef, undef, undef, undef, .bool true, .bool true, undef, undef, undef, undef, undef, undef, undef, undef, undef, undef, undef, undef, undef, undef, undef, undef, undef, undef, undef, undef, undef, undef, undef, undef, undef, undef, undef, undef, undef, undef, undef, undef, undef, undef, undef, undef, undef, undef], []⟩) rfl rfl (by decide) (fun _ _ => rfl) (fun _ _ _ h => noE h) rfl (fun _ => ?_)
  refine op_q (v := (Value.iface 196 (.pointer (some a)))) (a' := ⟨#[(Value.iface 196 (.pointer (some a))), (Value.iface 196 (.pointer (some a))), .bool true, undef, undef, undef, .bool false, undef, undef, undef, undef, undef, undef, undef, .bool true, .bool true, (Value.iface 196 (.pointer (some a))), undef, undef, undef, undef, undef, undef, undef, undef, undef, undef, undef, undef, undef, undef, undef, undef, undef, undef, undef, undef, undef, undef, undef, undef, undef, undef, undef, undef, undef, undef, undef, undef, undef, undef, undef, undef, undef], []⟩) rfl rfl (by decide) (fun _ _ => rfl) (fun _ _ _ h => noE h) rfl (fun _ => ?_)
  refine op_q (v := (Value.iface 196 (.pointer (some a)))) (a' := ⟨#[(Value.iface 196 (.pointer (some a))), (Value.iface 196 (.pointer (some a))), .bool true, undef, undef, undef, .bool false, undef, undef, undef, undef, undef, undef, undef, .bool true, .bool true, (Value.iface 196 (.pointer (some a))), (Value.iface 196 (.pointer (some a))), undef, undef, undef, undef, undef, undef, undef, undef, undef, undef, undef, undef, undef, undef, undef, undef, undef, undef, undef, undef, undef, undef, undef, undef, undef, undef, undef, undef, undef, undef, undef, undef, undef, undef, undef, undef], []⟩) rfl rfl (by decide) (fun _ _ => rfl) (fun _ _ _ h => noE h) rfl (fun _ => ?_)
  refine op_q (v := .bool true) (a' := ⟨#[(Value.iface 196 (.pointer (some a))), (Value.iface 196 (.pointer (some a))), .bool true, undef, undef, undef, .bool false, undef, undef, undef, undef, undef, undef, undef, .bool true, .bool true, (Value.iface 196 (.pointer (some a))), (Value.iface 196 (.pointer (some a))), .bool true, undef, undef, undef, undef, undef, undef, undef, undef, undef, undef, undef, undef, undef, undef, undef, undef, undef, undef, undef, undef, undef, undef, undef, undef, undef, undef, undef, undef, undef, undef, undef, undef, undef, undef, undef], []⟩) rfl rfl (by decide) (fun w₁ _ => bin_run (s := binOp .eql 95 (Value.iface 196 (.pointer (some a))) (Value.iface 196 (.pointer (some a)))) (heq w₁)) (fun w₁ _ => bin_ev (s := binOp .eql 95 (Value.iface 196 (.pointer (some a))) (Value.iface 196 (.pointer (some a)))) (eqE w₁)) rfl (fun _ => ?_)
  refine op_q (v := .bool true) (a' := ⟨#[(Value.iface 196 (.pointer (some a))), (Value.iface 196 (.pointer (some a))), .bool true, undef, undef, undef, .bool false, undef, undef, undef, undef, undef, undef, undef, .bool true, .bool true, (Value.iface 196 (.pointer (some a))), (Value.iface 196 (.pointer (some a))), .bool true, .bool true, undef, undef, undef, undef, undef, undef, undef, undef, undef, undef, undef, undef, undef, undef, undef, undef, undef, undef, undef, undef, undef, undef, undef, undef, undef, undef, undef, undef, undef, undef, undef, undef, undef, undef], []⟩) rfl rfl (by decide) (fun _ _ => rfl) (fun _ _ _ h => noE h) rfl (fun _ => ?_)
  b_ctl
  b_cond true
  b_ctl
  b_ctl
  refine op_q (v := .bool true) (a' := ⟨#[(Value.iface 196 (.pointer (some a))), (Value.iface 196 (.pointer (some a))), .bool true, undef, undef, undef, .bool true, undef, undef, undef, undef, undef, undef, undef, .bool true, .bool true, (Value.iface 196 (.pointer (some a))), (Value.iface 196 (.pointer (some a))), .bool true, .bool true, undef, undef, undef, undef, undef, undef, undef, undef, undef, undef, undef, undef, undef, undef, undef, undef, undef, undef, undef, undef, undef, undef, undef, undef, undef, undef, undef, undef, undef, undef, undef, undef, undef, undef], []⟩) rfl rfl (by decide) (fun _ _ => rfl) (fun _ _ _ h => noE h) rfl (fun _ => ?_)
  b_ctl
  refine ret_q (fun _ _ => ?_)
  refine leave_q (v := .bool true) (a' := ⟨#[(Value.iface 196 (.pointer (some a))), (Value.iface 196 (.pointer (some a))), undef, undef, .bool false, .bool true, (Value.iface 196 (.pointer (some a))), .bool false, .bool false, (Value.iface 196 (.pointer (some a))), .bool false, .bool false, undef, undef, undef, (Value.iface 196 (.pointer (some a))), (Value.iface 183 (.agg #[.pointer (some ⟨5, 196, none⟩)])), .bool true, (Value.iface 196 (.pointer (some a))), (Value.iface 196 (.pointer (some a))), .bool true, .bool true], []⟩) rfl rfl Tryz.func128 (fun w₁ => results_tmp (t := 6) rfl _ Tryz.prog w₁) (fun w₁ => events_results_tmp (t := 6) rfl _ _) rfl (fun _ => ?_)
  refine op_q (v := .bool true) (a' := ⟨#[(Value.iface 196 (.pointer (some a))), (Value.iface 196 (.pointer (some a))), undef, undef, .bool true, .bool true, (Value.iface 196 (.pointer (some a))), .bool false, .bool false, (Value.iface 196 (.pointer (some a))), .bool false, .bool false, undef, undef, undef, (Value.iface 196 (.pointer (some a))), (Value.iface 183 (.agg #[.pointer (some ⟨5, 196, none⟩)])), .bool true, (Value.iface 196 (.pointer (some a))), (Value.iface 196 (.pointer (some a))), .bool true, .bool true], []⟩) rfl rfl (by decide) (fun _ _ => rfl) (fun _ _ _ h => noE h) rfl (fun _ => ?_)
  b_ctl
  refine ret_q (fun _ _ => ?_)
  exact Goes.stop fun _ _ => ⟨_, _, rfl, rfl, rfl, rfl, rfl, Tryz.func95, fun w₁ => results_tmp (t := 4) rfl _ Tryz.prog w₁⟩
end IsG
namespace Eng
open Tr
theorem still_mono {P : Program} {f : FuncId} {args : Array Value} {S S' : World → Prop} {v : Value} (h : Co.StillG P f args S v) (hS : ∀ w, S' w → S w) : Co.StillG P f args S' v := by
  intro cs w
  obtain ⟨n, hn⟩ := h cs w
  refine ⟨n, ?_⟩
  have key : ∀ (n : Nat) (g : Goroutine) (w : World), Goes P true (fun _ w₁ => S w₁) Co.DQ (Co.Leave P f v cs) n g w → Goes P true (fun _ w₁ => S' w₁) Co.DQ (Co.Leave P f v cs) n g w := by
    intro n
    induction n with
    | zero => exact fun g w h w₁ h₁ => h w₁ (hS _ h₁)
    | succ n ih =>
      intro g w h
      rcases h with h | ⟨hs, h⟩
      · exact .inl fun w₁ h₁ => h w₁ (hS _ h₁)
      · refine .inr ⟨hs, fun w₁ h₁ => ?_⟩
        have := h w₁ (hS _ h₁)
        revert this
        cases stepG P true g w₁ <;> simp only [GStep.goes, imp_self]
        exact fun ⟨d, x⟩ => ⟨d, ih _ _ x⟩
  exact key n _ w hn
theorem glAll_nh {X : Cx} : ∀ {l : List Glb}, GlAll (GlX X) l → ∀ x ∈ l, ¬ X.H x.g
  | _ :: _, h, x, hx => by
    rw [List.mem_cons] at hx
    rcases hx with rfl | hx
    · exact h.1.nh
    · exact glAll_nh h.2 x hx
/-- a call that leaves the world as0 it is, and whose result is known: alone or in company -/
theorem fn_stillG {P : Program} {f : Nat} {fn : Func} {code : Code} {vs : List Value} {v : Value} {gl : List Glb} {S : World → Prop} (hv : v.oneCell' = true) (hf : P.funcs[f]? = some fn) (hb : fn.body = some code) (hS : ∀ w, (∀ x ∈ gl, w.heap[x.g]? = some (.cells x.cs.toArray x.T x.fz)) → S w) (h : Co.StillG P f vs.toArray S v) (hc : ∀ args w, (callFunc f args).run P w = .ok (.enter f args) w) :
    Fn P ⟨f, vs.map (fun v => .one (.lit v)), [], .sv (.one (.lit v)), [], [], gl⟩ := by
  refine ⟨fun X ρ xs hds hgl hM hk hx => ?_, hc, fun _ args w => by
    unfold callFunc
    simp only [Sem.events_bind, run_program, Result.evThen_ok, events_program, hf, hb, Option.isNone_some, Bool.false_eq_true, if_false]
    split <;> rfl⟩
  obtain rfl := still_args hx
  have h' := still_mono h hS
  refine Co.calls_still h' (fun w w₁ ha hw x hx => (ha.blk _ (glAll_nh hgl x hx)).trans (hw x hx)) (still_gl hgl) (fun w₁ ha => ?_)
  exact ⟨v, ρ, rfl, ⟨rfl, hv⟩, Ext.refl ρ, fun q y hq => .inl (hk q y hq), hM.aside ha, (show WRel X X.w0 from ⟨rfl, rfl, rfl, Nat.le_refl _, fun _ _ _ => rfl⟩).aside ha⟩
end Eng
end Go.Proofs.YtgeakpeodhhffaaGreatDoor
namespace Go.Proofs.YtgeakpeodhhffaaGreatDoor
open Go.RowKit
set_option linter.unusedVariables false
set_option linter.unusedSimpArgs false
set_option maxRecDepth 100000
namespace Eng
open Tr
/-- for each of n frames: a page is mapped to it -/
def fwL (l : List GEntry) (n : Nat) : List Bool := (List.range n).map fun i : Nat => decide (∃ e ∈ l, e.Mode ≠ 0 ∧ e.Frame = (i : Int))
theorem fwL_nil (n : Nat) : fwL [] n = List.replicate n false := by
  unfold fwL
  rw [List.eq_replicate_iff]
  simp
theorem fwL_len (l : List GEntry) (n : Nat) : (fwL l n).length = n := by simp [fwL]
theorem fwL_snoc (l : List GEntry) (e : GEntry) (n : Nat) : fwL (l ++ [e]) n = if e.Mode ≠ 0 ∧ 0 ≤ e.Frame then (fwL l n).set e.Frame.toNat true else fwL l n := by
  refine List.ext_getElem? fun i => ?_
  have h0 : ∀ (l : List GEntry), (fwL l n)[i]? = if i < n then some (decide (∃ e ∈ l, e.Mode ≠ 0 ∧ e.Frame = (i : Int))) else none := by
    intro l
    unfold fwL
    rw [List.getElem?_map]
    split
    · rw [List.getElem?_range (by assumption)]; rfl
    · rw [List.getElem?_eq_none (by simp; omega)]; rfl
  rw [h0]
  by_cases hi : i < n
  · rw [if_pos hi]
    by_cases he : e.Mode ≠ 0 ∧ 0 ≤ e.Frame
    · rw [if_pos he, List.getElem?_set, fwL_len]
      by_cases hf : e.Frame.toNat = i
      · rw [if_pos hf, if_pos (by omega), decide_eq_true ⟨e, by simp, he.1, by omega⟩]
      · rw [if_neg hf, h0, if_pos hi]
        congr 1
        rw [decide_eq_decide]
        constructor
        · rintro ⟨x, hx, h1, h2⟩
          rw [List.mem_append, List.mem_singleton] at hx
          rcases hx with hx | rfl
          · exact ⟨x, hx, h1, h2⟩
          · omega
        · rintro ⟨x, hx, h1, h2⟩; exact ⟨x, by simp [hx], h1, h2⟩
    · rw [if_neg he, h0, if_pos hi]
      congr 1
      rw [decide_eq_decide]
      constructor
      · rintro ⟨x, hx, h1, h2⟩
        rw [List.mem_append, List.mem_singleton] at hx
        rcases hx with hx | rfl
        · exact ⟨x, hx, h1, h2⟩
        · exact absurd ⟨h1, by omega⟩ he
      · rintro ⟨x, hx, h1, h2⟩; exact ⟨x, by simp [hx], h1, h2⟩
  · rw [if_neg hi]
    split
    · rw [List.getElem?_set, fwL_len, h0]
      split <;> (try split) <;> first | rfl | omega
    · rw [h0, if_neg hi]
def c_fwp (t : GTable) (n : Nat) : CFD := ⟨126, [.agg [ro 47 2 eEntry t.Entries], (SV.one (.lit (.int .i64 ((n : Int)))))], [], .sv (.one (.hd 0)), [(0, some (.row 4 1 ((fwL t.Entries n).map Tr.eB)))], [0], []⟩
theorem fn_fwp (t : GTable) (n : Nat) (hl : t.Entries.length ≤ 1048576) (hn : n ≤ 1048576) (hok : ∀ e ∈ t.Entries, okE n e) : Fn Tryz.prog (c_fwp t n) := by
  refine fn_intro tt_ok Tryz.func126 rfl Tryz.call126 Tryz.ntmps126 Tryz.results126 rfl rfl rfl rfl ?_
  intro X ρ0 hb_ hgl_
  dsimp only [c_fwp]
  try refine nrm ?_
  repeat' (refine ar_id ?_; first | refine st1 ?_ | (first | ((first | refine ar_region tt_ok (inps := []) rfl ?_ ?_); rotate_left; (try refine nrm ?_); rotate_right) | refine ret3 ?_ | refine end3 ?_) | (refine ar_cond rfl trivial ?_ ?_ <;> intro hc_ <;> (try simp only [isNilI, inB, reduceCtorEq, cds] at hc_) <;> (try (first | contradiction | (exfalso; omega)))) | refine ar_until (And.intro ?_ (wk3 ?_)))
  all_goals (first | refine ar_id ?_ | (try (focus ((try refine nrmO ?_); (repeat' (first | exact True.intro | refine And.intro ?_ ?_)); all_goals (try (intro (hg_ : _ = true); (try simp only [isNilI, inB, reduceCtorEq, cds] at hg_); (repeat' (first | exact True.intro | refine And.intro ?_ ?_)))); all_goals (first | exact ob1 | skip)))))
  refine ar_keep 14519 (by dsimp only [keepS] <;> exact rfl) ?_
  refine ar_forM (t.Entries.length) (fun i => True) (fun i => [(13, (TV.sv (.one (.lit (.int .i64 (i)))))), (5, (TV.sv (.one (.hd 9))))]) (fun i => [(9, some (.row 4 1 ((fwL (t.Entries.take i) n).map Tr.eB)))]) ?_ ?_ ?_
  rotate_left
  · first | trivial | simp
  (dsimp only [rnCap, capSVs, Int.toNat_natCast, ro, Nat.reduceAdd, Nat.reduceMul, Nat.zero_add, List.map, putT, app, wrapG, gOb, argT, keys, slotOf, dropped, gAnd, wB, rnT, rnS, rnC, rnCs, rnSs, rnM, rnB, rnN, rn, lk, St.over, ded, delL, keepT, menT, menSs, menS, menCs, menC, hasN, resT, SV.cells]; refine wk3 ?_; (focus ((try refine nrmO ?_); (repeat' (first | exact True.intro | refine And.intro ?_ ?_)); all_goals (try (intro (hg_ : _ = true); (try simp only [isNilI, inB, reduceCtorEq, cds] at hg_); (repeat' (first | exact True.intro | refine And.intro ?_ ?_)))); all_goals (first | exact ob1 | exact rfl | skip))))
  rotate_right
  intro i hi_ hiI_
  dsimp only [rnCap, capSVs, Int.toNat_natCast, ro, Nat.reduceAdd, Nat.reduceMul, Nat.zero_add, List.map, putT, app, wrapG, gOb, argT, keys, slotOf, dropped, gAnd, wB, rnT, rnS, rnC, rnCs, rnSs, rnM, rnB, rnN, rn, lk, St.over, ded, delL, keepT, menT, menSs, menS, menCs, menC, hasN, resT, SV.cells]
  repeat' (refine ar_id ?_; first | refine st1 ?_ | (first | ((first | refine ar_region (id := 4) tt_ok (inps := [.elem (eEntry (t.Entries.getD i ⟨0, 0⟩))]) rfl ?_ ?_ | refine ar_region (id := 5) tt_ok (inps := [.call (c_isMapped (t.Entries.getD i ⟨0, 0⟩).Mode (t.Entries.getD i ⟨0, 0⟩).Frame)]) rfl ?_ ?_ | refine ar_region (id := 6) tt_ok (inps := [.elem (Tr.eB ((fwL (t.Entries.take i) n).getD (t.Entries.getD i ⟨0, 0⟩).Frame.toNat false))]) rfl ?_ ?_ | refine ar_region tt_ok (inps := []) rfl ?_ ?_); rotate_left; (try dsimp only [c_isMapped]); (try refine nrm ?_); rotate_right) | refine ret3 ?_ | refine end3 ?_) | (refine ar_cond rfl trivial ?_ ?_ <;> intro hc_ <;> (try simp only [isNilI, inB, reduceCtorEq, cds] at hc_) <;> (try (first | contradiction | (exfalso; omega)))) | refine ar_until (And.intro ?_ (wk3 ?_)))
  all_goals (first | refine ar_id ?_ | (try (focus ((try refine nrmO ?_); (repeat' (first | exact True.intro | refine And.intro ?_ ?_)); all_goals (try (intro (hg_ : _ = true); (try simp only [isNilI, inB, reduceCtorEq, cds] at hg_); (repeat' (first | exact True.intro | refine And.intro ?_ ?_)))); all_goals (first | exact ob1 | exact fn_isMapped _ _ | skip)))))
  · have := hok _ (getD_in (l := t.Entries) (i := i) (d := ⟨0, 0⟩) (by omega)); unfold okE at this; omega
  · have := hok _ (getD_in (l := t.Entries) (i := i) (d := ⟨0, 0⟩) (by omega)); unfold okE at this; rw [List.length_map, fwL_len]; omega
  · have := hok _ (getD_in (l := t.Entries) (i := i) (d := ⟨0, 0⟩) (by omega)); unfold okE at this; exact map_at (by rw [fwL_len]; omega)
  · have := hok _ (getD_in (l := t.Entries) (i := i) (d := ⟨0, 0⟩) (by omega)); unfold okE at this
    rw [take_getD _ ⟨0, 0⟩ (by omega), fwL_snoc, if_pos ⟨hc_, by omega⟩]
    exact List.map_set.symm
  · rw [take_getD _ ⟨0, 0⟩ (by omega), fwL_snoc, if_neg (fun h => h.1 hc_)]
  · rw [List.take_of_length_le (by omega)]
  · rw [List.take_zero, fwL_nil, List.map_replicate]; rfl
def c_EqualB (a b : List Bool) : CFD := ⟨125, [.one (ro 4 1 Tr.eB a), .one (ro 4 1 Tr.eB b)], [], (TV.sv (.one (.lit (.bool (decide (a = b)))))), [], [], []⟩
theorem fn_EqualB (a b : List Bool) (hl : a.length ≤ 1048576) (hb : b.length ≤ 1048576) : Fn Tryz.prog (c_EqualB a b) := by
  refine fn_intro tt_ok Tryz.func125 rfl Tryz.call125 Tryz.ntmps125 Tryz.results125 rfl rfl rfl rfl ?_
  intro X ρ0 hb_ hgl_
  dsimp only [c_EqualB]
  try refine nrm ?_
  repeat' (refine ar_id ?_; first | refine st1 ?_ | (first | ((first | refine ar_region tt_ok (inps := []) rfl ?_ ?_); rotate_left; (try refine nrm ?_); rotate_right) | refine ret3 ?_ | refine end3 ?_) | (refine ar_cond rfl trivial ?_ ?_ <;> intro hc_ <;> (try simp only [isNilI, inB, reduceCtorEq, cds] at hc_) <;> (try (first | contradiction | (exfalso; omega)))) | refine ar_until (And.intro ?_ (wk3 ?_)))
  all_goals (first | refine ar_id ?_ | (try (focus ((try refine nrmO ?_); (repeat' (first | exact True.intro | refine And.intro ?_ ?_)); all_goals (try (intro (hg_ : _ = true); (try simp only [isNilI, inB, reduceCtorEq, cds] at hg_); (repeat' (first | exact True.intro | refine And.intro ?_ ?_)))); all_goals (first | exact ob1 | skip)))))
  · exact bf fun h => hc_ (by rw [h])
  have hlen := hc_
  refine ar_keep 12339 (by dsimp only [keepS] <;> exact rfl) ?_
  refine ar_forM (a.length) (fun i => a.take i = b.take i) (fun i => [(13, (TV.sv (.one (.lit (.int .i64 (i))))))]) (fun i => []) ?_ ?_ ?_
  rotate_left
  · first | trivial | simp
  (dsimp only [rnCap, capSVs, Int.toNat_natCast, ro, Nat.reduceAdd, Nat.reduceMul, Nat.zero_add, List.map, putT, app, wrapG, gOb, argT, keys, slotOf, dropped, gAnd, wB, rnT, rnS, rnC, rnCs, rnSs, rnM, rnB, rnN, rn, lk, St.over, ded, delL, keepT, menT, menSs, menS, menCs, menC, hasN, resT, SV.cells]; refine wk3 ?_; (focus ((try refine nrmO ?_); (repeat' (first | exact True.intro | refine And.intro ?_ ?_)); all_goals (try (intro (hg_ : _ = true); (try simp only [isNilI, inB, reduceCtorEq, cds] at hg_); (repeat' (first | exact True.intro | refine And.intro ?_ ?_)))); all_goals (first | exact ob1 | exact rfl | skip))))
  rotate_right
  intro i hi_ hiI_
  dsimp only [rnCap, capSVs, Int.toNat_natCast, ro, Nat.reduceAdd, Nat.reduceMul, Nat.zero_add, List.map, putT, app, wrapG, gOb, argT, keys, slotOf, dropped, gAnd, wB, rnT, rnS, rnC, rnCs, rnSs, rnM, rnB, rnN, rn, lk, St.over, ded, delL, keepT, menT, menSs, menS, menCs, menC, hasN, resT, SV.cells]
  repeat' (refine ar_id ?_; first | refine st1 ?_ | (first | ((first | refine ar_draw (id := 6) (inps := [.elem (Tr.eB (a.getD i false)), .elem (Tr.eB (b.getD i false))]) tt_ok (by kernel_rfl) rfl rfl (by kernel_rfl) rfl rfl rfl rfl ?_ ?_ | refine ar_region tt_ok (inps := []) rfl ?_ ?_); rotate_left; (try refine nrm ?_); rotate_right) | refine ret3 ?_ | refine end3 ?_) | (refine ar_cond rfl trivial ?_ ?_ <;> intro hc_ <;> (try simp only [isNilI, inB, reduceCtorEq, cds] at hc_) <;> (try (first | contradiction | (exfalso; omega)))) | refine ar_until (And.intro ?_ (wk3 ?_)))
  all_goals (first | refine ar_id ?_ | (try (focus ((try refine nrmO ?_); (repeat' (first | exact True.intro | refine And.intro ?_ ?_)); all_goals (try (intro (hg_ : _ = true); (try simp only [isNilI, inB, reduceCtorEq, cds] at hg_); (repeat' (first | exact True.intro | refine And.intro ?_ ?_)))); all_goals (first | exact ob1 | skip)))))
  · refine bf fun h => ?_
    subst h
    simp at hc_
  · rw [take_getD a false (by omega), take_getD b false (by omega), hiI_]
    simpa using hc_
  · refine bt ?_
    rw [List.take_of_length_le (by omega), List.take_of_length_le (by omega)] at hiI_
    exact hiI_
theorem onFrame_pos (f : Int) : ∀ (i : Nat) (l : List GEntry), 0 < (onFrame f i l).length ↔ ∃ e ∈ l, e.Mode ≠ 0 ∧ e.Frame = f
  | _, [] => by simp [onFrame]
  | i, e :: l => by
    have ih := onFrame_pos f (i + 1) l
    show 0 < (_ ++ onFrame f (i + 1) l).length ↔ _
    rw [List.length_append]
    by_cases h : e.Mode ≠ 0 ∧ e.Frame = f
    · rw [if_pos h]
      exact ⟨fun _ => ⟨e, by simp, h⟩, fun _ => by simp; omega⟩
    · rw [if_neg h]
      simp only [List.length_nil, Nat.zero_add, ih]
      constructor
      · rintro ⟨x, hx, h1⟩; exact ⟨x, by simp [hx], h1⟩
      · rintro ⟨x, hx, h1⟩
        rw [List.mem_cons] at hx
        rcases hx with rfl | hx
        · exact absurd h1 h
        · exact ⟨x, hx, h1⟩
theorem used_iff (m : GMachine) : usedAre m ↔ m.Frames.Used = fwL m.Table.Entries m.Frames.Used.length := by
  have h0 : ∀ i, i < m.Frames.Used.length → (fwL m.Table.Entries m.Frames.Used.length)[i]? = some (decide (0 < (pPagesOn m.Table (i : Int)).length)) := by
    intro i hi
    unfold fwL pPagesOn
    rw [List.getElem?_map, List.getElem?_range hi, Option.map_some]
    congr 1
    rw [decide_eq_decide, onFrame_pos]
  constructor
  · intro h
    refine List.ext_getElem? fun i => ?_
    rcases Nat.lt_or_ge i m.Frames.Used.length with hi | hi
    · rw [h i hi, h0 i hi]
    · rw [List.getElem?_eq_none hi, List.getElem?_eq_none (by rw [fwL_len]; exact hi)]
  · intro h i hi
    rw [← h0 i hi, ← h]
/-- a machine that can be read: its slices are not too long -/
structure szM (m : GMachine) : Prop where
  c : m.Frames.Cells.length ≤ 1048576
  u : m.Frames.Used.length ≤ 1048576
  r : ∀ r ∈ m.Frames.Cells, r.length ≤ 1048576
  e : m.Table.Entries.length ≤ 1048576
def c_MOkI (m : GMachine) : CFD := ⟨94, [.agg [ro 33 1 eIntS m.Frames.Cells, ro 4 1 Tr.eB m.Frames.Used, ro 47 2 eEntry m.Table.Entries]], [], (TV.sv (.one (.lit (.bool (pMachineOk m))))), [], [], []⟩
theorem fn_MOkI (m : GMachine) (hs : szM m) : Fn Tryz.prog (c_MOkI m) := by
  refine fn_intro tt_ok Tryz.func94 rfl Tryz.call94 Tryz.ntmps94 Tryz.results94 rfl rfl rfl rfl ?_
  intro X ρ0 hb_ hgl_
  dsimp only [c_MOkI]
  try refine nrm ?_
  repeat' (refine ar_id ?_; first | refine st1 ?_ | (first | ((first | refine ar_region (id := 1) tt_ok (inps := [.call (c_FramesOkI m.Frames), .call (c_TableOkI m.Table m.Frames.Used.length)]) rfl ?_ ?_ | refine ar_region tt_ok (inps := []) rfl ?_ ?_); rotate_left; (try dsimp only [c_FramesOkI, c_TableOkI]); (try refine nrm ?_); rotate_right) | refine ret3 ?_ | refine end3 ?_) | (refine ar_cond rfl trivial ?_ ?_ <;> intro hc_ <;> (try simp only [isNilI, inB, reduceCtorEq, cds] at hc_) <;> (try (first | contradiction | (exfalso; omega)))) | refine ar_until (And.intro ?_ (wk3 ?_)))
  all_goals (first | refine ar_id ?_ | (try (focus ((try refine nrmO ?_); (repeat' (first | exact True.intro | refine And.intro ?_ ?_)); all_goals (try (intro (hg_ : _ = true); (try simp only [isNilI, inB, reduceCtorEq, cds] at hg_); (repeat' (first | exact True.intro | refine And.intro ?_ ?_)))); all_goals (first | exact ob1 | exact fn_FramesOkI _ hs.c hs.u hs.r | exact fn_TableOkI _ _ hs.e | skip)))))
  · refine bf fun h => ?_
    rcases hc_ with hc_ | hc_
    · rw [show pFramesOk m.Frames = true from decide_eq_true h.1] at hc_; cases hc_
    · rw [h.1.2.1, h.2.1] at hc_; cases hc_
  have hok := of_decide_eq_true hc_.1
  repeat' (refine ar_id ?_; first | refine st1 ?_ | (first | ((first | refine ar_draw (id := 3) (inps := [.call (c_fwp m.Table m.Frames.Used.length), .call (c_EqualB m.Frames.Used (fwL m.Table.Entries m.Frames.Used.length))]) tt_ok (by kernel_rfl) rfl rfl (by kernel_rfl) rfl rfl rfl rfl ?_ ?_ | refine ar_region tt_ok (inps := []) rfl ?_ ?_); rotate_left; (try dsimp only [c_EqualB, c_fwp]); (try refine nrm ?_); rotate_right) | refine ret3 ?_ | refine end3 ?_) | (refine ar_cond rfl trivial ?_ ?_ <;> intro hc_ <;> (try simp only [isNilI, inB, reduceCtorEq, cds] at hc_) <;> (try (first | contradiction | (exfalso; omega)))) | refine ar_until (And.intro ?_ (wk3 ?_)))
  all_goals (first | refine ar_id ?_ | (try (focus ((try refine nrmO ?_); (repeat' (first | exact True.intro | refine And.intro ?_ ?_)); all_goals (try (intro (hg_ : _ = true); (try simp only [isNilI, inB, reduceCtorEq, cds] at hg_); (repeat' (first | exact True.intro | refine And.intro ?_ ?_)))); all_goals (first | exact ob1 | exact fn_EqualB _ _ hs.u (by rw [fwL_len]; exact hs.u) | exact fn_fwp _ _ hs.e hs.u (of_decide_eq_true hc_.2).1 | skip)))))
  refine congrArg Value.bool ?_
  show _ = decide (okM m)
  rw [decide_eq_decide]
  exact ⟨fun h => ⟨hok, by rw [← hok.2.1]; exact hc_.2, (used_iff m).2 h⟩, fun h => (used_iff m).1 h.2.2⟩
def c_CopyMI (m : GMachine) : CFD := ⟨81, [.agg [ro 33 1 eIntS m.Frames.Cells, ro 4 1 Tr.eB m.Frames.Used, ro 47 2 eEntry m.Table.Entries]], [], .sv (.agg [.hd 0, .hd 1, .hd 2]),
  [(0, some (.row 33 1 (m.Frames.Cells.map eIntS))), (1, some (.row 4 1 (m.Frames.Used.map Tr.eB))), (2, some (.row 47 2 (m.Table.Entries.map eEntry)))], [0, 1, 2], []⟩
theorem fn_CopyMI (m : GMachine) (hs : szM m) : Fn Tryz.prog (c_CopyMI m) := by
  refine fn_intro tt_ok Tryz.func81 rfl Tryz.call81 Tryz.ntmps81 Tryz.results81 rfl rfl rfl rfl ?_
  intro X ρ0 hb_ hgl_
  dsimp only [c_CopyMI]
  try refine nrm ?_
  repeat' (refine ar_id ?_; first | refine st1 ?_ | (first | ((first | refine ar_draw (id := 1) (inps := [.call (c_Copy5I m.Frames), .call (c_CloneE m.Table.Entries)]) tt_ok (by kernel_rfl) rfl rfl (by kernel_rfl) rfl rfl rfl rfl ?_ ?_ | refine ar_region tt_ok (inps := []) rfl ?_ ?_); rotate_left; (try dsimp only [c_CloneE, c_Copy5I]); (try refine nrm ?_); rotate_right) | refine ret3 ?_ | refine end3 ?_) | (refine ar_cond rfl trivial ?_ ?_ <;> intro hc_ <;> (try simp only [isNilI, inB, reduceCtorEq, cds] at hc_) <;> (try (first | contradiction | (exfalso; omega)))) | refine ar_until (And.intro ?_ (wk3 ?_)))
  all_goals (first | refine ar_id ?_ | (try (focus ((try refine nrmO ?_); (repeat' (first | exact True.intro | refine And.intro ?_ ?_)); all_goals (try (intro (hg_ : _ = true); (try simp only [isNilI, inB, reduceCtorEq, cds] at hg_); (repeat' (first | exact True.intro | refine And.intro ?_ ?_)))); all_goals (first | exact ob1 | exact fn_Copy5I _ hs.c hs.u hs.r | exact fn_CloneE _ hs.e | skip)))))
/-- the sentinel of a page that is not mapped -/
def eP (a : Addr) : Value := .iface 196 (.pointer (some a))
def gP (a : Addr) (ty : Nat) : Glb := ⟨0, [eP a], ty, (0, 0)⟩
def canMap (m : GMachine) (page : Int) : Prop := okM m ∧ (pPageEntry m.Table page).Mode ≠ 0
instance (m : GMachine) (page : Int) : Decidable (canMap m page) := by unfold canMap; infer_instance
def mapE (m : GMachine) (page : Int) : GEntry := if canMap m page then pPageEntry m.Table page else ⟨0, 0⟩
def errP (a : Addr) (m : GMachine) (page : Int) : Value := if canMap m page then .nilIface else eP a
def c_mapped (a : Addr) (ty : Nat) (m : GMachine) (page : Int) : CFD := ⟨47, [.agg [ro 33 1 eIntS m.Frames.Cells, ro 4 1 Tr.eB m.Frames.Used, ro 47 2 eEntry m.Table.Entries], (SV.one (.lit (.int .i64 (page))))], [],
  .tup [.agg [(CV.lit (.int .i64 ((mapE m page).Mode))), (CV.lit (.int .i64 ((mapE m page).Frame)))], .one (.lit (errP a m page))], [], [], [gP a ty]⟩
theorem fn_mapped (a : Addr) (ty : Nat) (m : GMachine) (page : Int) (hs : szM m) : Fn Tryz.prog (c_mapped a ty m page) := by
  refine fn_intro tt_ok Tryz.func47 rfl Tryz.call47 Tryz.ntmps47 Tryz.results47 rfl rfl rfl rfl ?_
  intro X ρ0 hb_ hgl_
  dsimp only [c_mapped]
  try refine nrm ?_
  repeat' (refine ar_id ?_; first | refine st1 ?_ | (first | ((first | refine ar_region (id := 1) tt_ok (inps := [.call (c_PageEntryI m.Table page)]) rfl ?_ ?_ | refine ar_region (id := 2) tt_ok (inps := [.call (c_MOkI m), .call (c_isMapped (pPageEntry m.Table page).Mode (pPageEntry m.Table page).Frame)]) rfl ?_ ?_ | refine ar_draw (id := 3) (inps := [.glob (gP a ty) [eP a]]) tt_ok (by kernel_rfl) rfl rfl (by kernel_rfl) rfl rfl rfl rfl ?_ ?_ | refine ar_region tt_ok (inps := []) rfl ?_ ?_); rotate_left; (try dsimp only [c_MOkI, c_PageEntryI, c_isMapped]); (try refine nrm ?_); rotate_right) | refine ret3 ?_ | refine end3 ?_) | (refine ar_cond rfl trivial ?_ ?_ <;> intro hc_ <;> (try simp only [isNilI, inB, reduceCtorEq, cds] at hc_) <;> (try (first | contradiction | (exfalso; omega)))) | refine ar_until (And.intro ?_ (wk3 ?_)))
  all_goals (first | refine ar_id ?_ | (try (focus ((try refine nrmO ?_); (repeat' (first | exact True.intro | refine And.intro ?_ ?_)); all_goals (try (intro (hg_ : _ = true); (try simp only [isNilI, inB, reduceCtorEq, cds] at hg_); (repeat' (first | exact True.intro | refine And.intro ?_ ?_)))); all_goals (first | exact ob1 | exact fn_PageEntryI _ _ hs.e | exact fn_MOkI _ hs | exact fn_isMapped _ _ | exact hgl_.1 | exact rfl | exact one1 rfl | skip)))))
  all_goals (try (
    have hcm : ¬ canMap m page := fun h => by
      rcases hc_ with hc_ | hc_
      · rw [show pMachineOk m = true from decide_eq_true h.1] at hc_; cases hc_
      · exact h.2 hc_
    unfold mapE
    rw [if_neg hcm]; done))
  · exact (if_neg (fun h => by
      rcases hc_ with hc_ | hc_
      · rw [show pMachineOk m = true from decide_eq_true h.1] at hc_; cases hc_
      · exact h.2 hc_)).symm
  all_goals have hcm : canMap m page := ⟨of_decide_eq_true hc_.1, hc_.2⟩
  · unfold mapE; rw [if_pos hcm]
  · unfold mapE; rw [if_pos hcm]
  · exact (if_pos hcm).symm
def pgOf (addr : Int) : Int := if addr < 0 then -1 else addr.tdiv 16
def c_pageOf (addr : Int) : CFD := ⟨48, [(SV.one (.lit (.int .i64 (addr))))], [], (TV.sv (.one (.lit (.int .i64 (pgOf addr))))), [], [], []⟩
theorem fn_pageOf (addr : Int) (h : okI addr) : Fn Tryz.prog (c_pageOf addr) := by
  refine fn_intro tt_ok Tryz.func48 rfl Tryz.call48 Tryz.ntmps48 Tryz.results48 rfl rfl rfl rfl ?_
  intro X ρ0 hb_ hgl_
  dsimp only [c_pageOf]
  try refine nrm ?_
  repeat' (refine ar_id ?_; first | refine st1 ?_ | (first | ((first | refine ar_region tt_ok (inps := []) rfl ?_ ?_); rotate_left; (try refine nrm ?_); rotate_right) | refine ret3 ?_ | refine end3 ?_) | (refine ar_cond rfl trivial ?_ ?_ <;> intro hc_ <;> (try simp only [isNilI, inB, reduceCtorEq, cds] at hc_) <;> (try (first | contradiction | (exfalso; omega)))) | refine ar_until (And.intro ?_ (wk3 ?_)))
  all_goals (first | refine ar_id ?_ | (try (focus ((try refine nrmO ?_); (repeat' (first | exact True.intro | refine And.intro ?_ ?_)); all_goals (try (intro (hg_ : _ = true); (try simp only [isNilI, inB, reduceCtorEq, cds] at hg_); (repeat' (first | exact True.intro | refine And.intro ?_ ?_)))); all_goals (first | exact ob1 | skip)))))
  · unfold pgOf; rw [if_pos hc_]
  · have h1 := h.1; have h2 := h.2; rw [Int.tdiv_eq_ediv_of_nonneg hc_]; exact i64_ok (by omega) (by omega)
  · unfold pgOf; rw [if_neg (by omega)]
/-- the page is mapped; it is not -/
def c_mapY (a : Addr) (ty : Nat) (m : GMachine) (page : Int) : CFD := ⟨47, [.agg [ro 33 1 eIntS m.Frames.Cells, ro 4 1 Tr.eB m.Frames.Used, ro 47 2 eEntry m.Table.Entries], (SV.one (.lit (.int .i64 (page))))], [],
  .tup [.agg [(CV.lit (.int .i64 ((pPageEntry m.Table page).Mode))), (CV.lit (.int .i64 ((pPageEntry m.Table page).Frame)))], .one (.lit .nilIface)], [], [], [gP a ty]⟩
def c_mapN (a : Addr) (ty : Nat) (m : GMachine) (page : Int) : CFD := ⟨47, [.agg [ro 33 1 eIntS m.Frames.Cells, ro 4 1 Tr.eB m.Frames.Used, ro 47 2 eEntry m.Table.Entries], (SV.one (.lit (.int .i64 (page))))], [],
  .tup [.agg [(CV.lit (.int .i64 (0))), (CV.lit (.int .i64 (0)))], .one (.lit (.iface 196 (.pointer (some a))))], [], [], [gP a ty]⟩
theorem fn_mapY (a : Addr) (ty : Nat) (m : GMachine) (page : Int) (hs : szM m) (h : canMap m page) : Fn Tryz.prog (c_mapY a ty m page) := by
  have := fn_mapped a ty m page hs
  unfold c_mapped mapE errP at this
  rw [if_pos h, if_pos h] at this
  exact this
theorem fn_mapN (a : Addr) (ty : Nat) (m : GMachine) (page : Int) (hs : szM m) (h : ¬ canMap m page) : Fn Tryz.prog (c_mapN a ty m page) := by
  have := fn_mapped a ty m page hs
  unfold c_mapped mapE errP at this
  rw [if_neg h, if_neg h] at this
  exact this
theorem canMap_frame {m : GMachine} {page : Int} (h : canMap m page) : 0 ≤ (pPageEntry m.Table page).Frame ∧ (pPageEntry m.Table page).Frame < (m.Frames.Cells.length : Int) ∧ (m.Frames.Cells.getD (pPageEntry m.Table page).Frame.toNat []).length = 16 ∧ m.Frames.Cells[(pPageEntry m.Table page).Frame.toNat]? = some (m.Frames.Cells.getD (pPageEntry m.Table page).Frame.toNat []) := by
  obtain ⟨f, hf, h1, h2, h3, h4⟩ := okM_entry h.1 h.2
  rw [hf, Int.toNat_natCast]
  exact ⟨by omega, by omega, h3, h4⟩
/-- the three sentinels -/
structure Se where
  (aP aW aV : Addr)
  (cP cW cV : List Value)
  (tP tW tV uP uW uV : Nat)
  n1 : aP ≠ aW
  n2 : aP ≠ aV
  n3 : aW ≠ aV
def gW (a : Addr) (ty : Nat) : Glb := ⟨1, [eP a], ty, (0, 0)⟩
def gV (a : Addr) (ty : Nat) : Glb := ⟨2, [eP a], ty, (0, 0)⟩
def Se.gl (s : Se) : List Glb := [gP s.aP s.uP, gW s.aW s.uW, gV s.aV s.uV, ⟨s.aP.block, s.cP, s.tP, (0, 0)⟩, ⟨s.aW.block, s.cW, s.tW, (0, 0)⟩, ⟨s.aV.block, s.cV, s.tV, (0, 0)⟩]
def c_Is (s : Se) (x y : Addr) (b : Bool) : CFD := ⟨95, [.one (.lit (.iface 196 (.pointer (some x)))), .one (.lit (.iface 196 (.pointer (some y))))], [], (TV.sv (.one (.lit (.bool (b))))), [], [], s.gl⟩
theorem fn_IsT (s : Se) (x : Addr) : Fn Tryz.prog (c_Is s x x true) :=
  fn_stillG (vs := [.iface 196 (.pointer (some x)), .iface 196 (.pointer (some x))]) rfl Tryz.func95 rfl (fun _ _ => True.intro) (IsG.same x) Tryz.call95
def c_fault (s : Se) (x : Addr) (k : Int) : CFD := ⟨49, [.one (.lit (.iface 196 (.pointer (some x))))], [], (TV.sv (.one (.lit (.int .i64 (k))))), [], [], s.gl⟩
theorem fn_faultP (s : Se) : Fn Tryz.prog (c_fault s s.aP 1) := by
  refine fn_intro tt_ok Tryz.func49 rfl Tryz.call49 Tryz.ntmps49 Tryz.results49 rfl rfl rfl rfl ?_
  intro X ρ0 hb_ hgl_
  dsimp only [c_fault]
  try refine nrm ?_
  repeat' (refine ar_id ?_; first | refine st1 ?_ | (first | ((first | refine ar_region (id := 1) tt_ok (inps := [.glob (gP s.aP s.uP) [.iface 196 (.pointer (some s.aP))], .call (c_Is s s.aP s.aP true)]) rfl ?_ ?_ | refine ar_region tt_ok (inps := []) rfl ?_ ?_); rotate_left; (try dsimp only [c_Is]); (try refine nrm ?_); rotate_right) | refine ret3 ?_ | refine end3 ?_) | (refine ar_cond rfl trivial ?_ ?_ <;> intro hc_ <;> (try simp only [isNilI, inB, reduceCtorEq, cds] at hc_) <;> (try (first | contradiction | (exfalso; omega)))) | refine ar_until (And.intro ?_ (wk3 ?_)))
  all_goals (first | refine ar_id ?_ | (try (focus ((try refine nrmO ?_); (repeat' (first | exact True.intro | refine And.intro ?_ ?_)); all_goals (try (intro (hg_ : _ = true); (try simp only [isNilI, inB, reduceCtorEq, cds] at hg_); (repeat' (first | exact True.intro | refine And.intro ?_ ?_)))); all_goals (first | exact ob1 | exact hgl_.1 | exact hgl_.2.1 | exact hgl_.2.2.1 | exact hgl_.2.2.2.1 | exact hgl_.2.2.2.2.1 | exact hgl_.2.2.2.2.2.1 | exact hgl_.2.2.2.2.2.2.1 | exact hgl_.2.2.2.2.2.2.2.1 | exact hgl_ | exact rfl | exact one1 rfl | exact fn_IsT _ _ | skip)))))
theorem pgOf_eq {addr : Int} (h : ¬ addr < 0) : pgOf addr = addr / 16 := by unfold pgOf; rw [if_neg h, Int.tdiv_eq_ediv_of_nonneg (by omega)]
theorem entry_eq (m : GMachine) (addr : Int) : (pEntry m addr).1 = pPageEntry m.Table (pgOf addr) := by
  unfold pEntry
  by_cases h : addr < 0
  · rw [if_pos h]
    unfold pgOf pPageEntry
    rw [if_pos h, if_neg (by omega)]
  · rw [if_neg h, pgOf_eq h]
theorem canLoad_iff (m : GMachine) (addr : Int) : canLoad m addr ↔ canMap m (pgOf addr) := by unfold canLoad canMap; rw [entry_eq]
theorem canMap_nonneg {m : GMachine} {addr : Int} (h : canMap m (pgOf addr)) : ¬ addr < 0 := fun hn => by
  have := h.2
  unfold pgOf pPageEntry at this
  rw [if_pos hn, if_neg (by omega)] at this
  exact this rfl
theorem load_val {m : GMachine} {addr : Int} (h : canMap m (pgOf addr)) : pLoad m addr = ((m.Frames.Cells.getD (pPageEntry m.Table (pgOf addr)).Frame.toNat []).getD (addr % 16).toNat 0, 0) := by
  unfold pLoad cellOf
  have hn := canMap_nonneg h
  rw [if_pos ((canLoad_iff m addr).2 h), entry_eq, show (pEntry m addr).2 = addr % 16 by unfold pEntry; rw [if_neg hn]]
def c_LoadI (s : Se) (m : GMachine) (addr : Int) : CFD := ⟨14, [.agg [ro 33 1 eIntS m.Frames.Cells, ro 4 1 Tr.eB m.Frames.Used, ro 47 2 eEntry m.Table.Entries], (SV.one (.lit (.int .i64 (addr))))], [],
  .tup [(SV.one (.lit (.int .i64 ((pLoad m addr).1)))), (SV.one (.lit (.int .i64 ((pLoad m addr).2))))], [], [], s.gl⟩
theorem fn_LoadI (s : Se) (m : GMachine) (addr : Int) (hs : szM m) (ha : okI addr) : Fn Tryz.prog (c_LoadI s m addr) := by
  by_cases hcm : canMap m (pgOf addr)
  · obtain ⟨f0, f1, f2, f3⟩ := canMap_frame hcm
    have hn := canMap_nonneg hcm
    have ht : addr.tmod 16 = addr % 16 := Int.tmod_eq_emod_of_nonneg (by omega)
    refine fn_intro tt_ok Tryz.func14 rfl Tryz.call14 Tryz.ntmps14 Tryz.results14 rfl rfl rfl rfl ?_
    intro X ρ0 hb_ hgl_
    dsimp only [c_LoadI]
    try refine nrm ?_
    repeat' (refine ar_id ?_; first | refine st1 ?_ | (first | ((first | refine ar_draw (id := 1) (inps := [.call (c_pageOf addr), .call (c_mapY s.aP s.uP m (pgOf addr))]) tt_ok (by kernel_rfl) rfl rfl (by kernel_rfl) rfl rfl rfl rfl ?_ ?_ | refine ar_region (id := 4) tt_ok (inps := [.elem (eIntS (m.Frames.Cells.getD (pPageEntry m.Table (pgOf addr)).Frame.toNat [])), .elem (Tr.eI ((m.Frames.Cells.getD (pPageEntry m.Table (pgOf addr)).Frame.toNat []).getD (addr.tmod 16).toNat 0))]) rfl ?_ ?_ | refine ar_region tt_ok (inps := []) rfl ?_ ?_); rotate_left; (try dsimp only [c_mapY, c_pageOf]); (try refine nrm ?_); rotate_right) | refine ret3 ?_ | refine end3 ?_) | (refine ar_cond rfl trivial ?_ ?_ <;> intro hc_ <;> (try simp only [isNilI, inB, reduceCtorEq, cds] at hc_) <;> (try (first | contradiction | (exfalso; omega)))) | refine ar_until (And.intro ?_ (wk3 ?_)))
    all_goals (first | refine ar_id ?_ | (try (focus ((try refine nrmO ?_); (repeat' (first | exact True.intro | refine And.intro ?_ ?_)); all_goals (try (intro (hg_ : _ = true); (try simp only [isNilI, inB, reduceCtorEq, cds] at hg_); (repeat' (first | exact True.intro | refine And.intro ?_ ?_)))); all_goals (first | exact ob1 | exact fn_pageOf _ ha | exact fn_mapY _ _ _ _ hs hcm | exact hgl_.1 | exact hgl_.2.1 | exact hgl_.2.2.1 | exact hgl_.2.2.2.1 | exact hgl_.2.2.2.2.1 | exact hgl_.2.2.2.2.2.1 | exact hgl_.2.2.2.2.2.2.1 | exact hgl_.2.2.2.2.2.2.2.1 | exact hgl_ | exact rfl | exact one1 rfl | exact trivial | exact elem_map (fun _ => rfl) f3 | skip)))))
    all_goals first
      | exact ⟨(m.Frames.Cells.getD (pPageEntry m.Table (pgOf addr)).Frame.toNat []).map eI, rfl, rfl, len_map (E := eI) (k := 1) (fun _ => rfl), map_at (by omega)⟩
      | (rw [load_val hcm, ht]; done)
      | (rw [load_val hcm]; done)
      | trace_state
  · skip
    refine fn_intro tt_ok Tryz.func14 rfl Tryz.call14 Tryz.ntmps14 Tryz.results14 rfl rfl rfl rfl ?_
    intro X ρ0 hb_ hgl_
    dsimp only [c_LoadI]
    try refine nrm ?_
    repeat' (refine ar_id ?_; first | refine st1 ?_ | (first | ((first | refine ar_draw (id := 1) (inps := [.call (c_pageOf addr), .call (c_mapN s.aP s.uP m (pgOf addr))]) tt_ok (by kernel_rfl) rfl rfl (by kernel_rfl) rfl rfl rfl rfl ?_ ?_ | refine ar_region (id := 3) tt_ok (inps := [.call (c_fault s s.aP 1)]) rfl ?_ ?_ | refine ar_region tt_ok (inps := []) rfl ?_ ?_); rotate_left; (try dsimp only [c_fault, c_mapN, c_pageOf]); (try refine nrm ?_); rotate_right) | refine ret3 ?_ | refine end3 ?_) | (refine ar_cond rfl trivial ?_ ?_ <;> intro hc_ <;> (try simp only [isNilI, inB, reduceCtorEq, cds] at hc_) <;> (try (first | contradiction | (exfalso; omega)))) | refine ar_until (And.intro ?_ (wk3 ?_)))
    all_goals (first | refine ar_id ?_ | (try (focus ((try refine nrmO ?_); (repeat' (first | exact True.intro | refine And.intro ?_ ?_)); all_goals (try (intro (hg_ : _ = true); (try simp only [isNilI, inB, reduceCtorEq, cds] at hg_); (repeat' (first | exact True.intro | refine And.intro ?_ ?_)))); all_goals (first | exact ob1 | exact fn_pageOf _ ha | exact fn_mapN _ _ _ _ hs hcm | exact hgl_.1 | exact hgl_.2.1 | exact hgl_.2.2.1 | exact hgl_.2.2.2.1 | exact hgl_.2.2.2.2.1 | exact hgl_.2.2.2.2.2.1 | exact hgl_.2.2.2.2.2.2.1 | exact hgl_.2.2.2.2.2.2.2.1 | exact hgl_ | exact rfl | exact one1 rfl | exact trivial | exact fn_faultP _ | skip)))))
    · unfold pLoad; rw [if_neg (fun h => hcm ((canLoad_iff m addr).1 h))]
    · unfold pLoad; rw [if_neg (fun h => hcm ((canLoad_iff m addr).1 h))]
end Eng
end Go.Proofs.YtgeakpeodhhffaaGreatDoor
namespace Go.Proofs.YtgeakpeodhhffaaGreatDoor
open Go.RowKit
set_option linter.unusedVariables false
set_option linter.unusedSimpArgs false
set_option maxRecDepth 100000
namespace Eng
open Tr
/-- a kernel that can be read -/
structure szK (k : GKernel) : Prop where
  m : szM k.Machine
  r : k.Refuse.length ≤ 1048576
def c_KOkI (k : GKernel) : CFD := ⟨86, [.agg [ro 33 1 eIntS k.Machine.Frames.Cells, ro 4 1 Tr.eB k.Machine.Frames.Used, ro 47 2 eEntry k.Machine.Table.Entries, (CV.lit (.int .i64 (k.Calls))), ro 3 1 Tr.eI k.Refuse]], [], (TV.sv (.one (.lit (.bool (pKernelOk k))))), [], [], []⟩
theorem fn_KOkI (k : GKernel) (hs : szK k) : Fn Tryz.prog (c_KOkI k) := by
  have hr := hs.r
  refine fn_intro tt_ok Tryz.func86 rfl Tryz.call86 Tryz.ntmps86 Tryz.results86 rfl rfl rfl rfl ?_
  intro X ρ0 hb_ hgl_
  dsimp only [c_KOkI]
  try refine nrm ?_
  repeat' (refine ar_id ?_; first | refine st1 ?_ | (first | ((first | refine ar_region (id := 1) tt_ok (inps := [.call (c_MOkI k.Machine)]) rfl ?_ ?_ | refine ar_region tt_ok (inps := []) rfl ?_ ?_); rotate_left; (try dsimp only [c_MOkI]); (try refine nrm ?_); rotate_right) | refine ret3 ?_ | refine end3 ?_) | (refine ar_cond rfl trivial ?_ ?_ <;> intro hc_ <;> (try simp only [isNilI, inB, reduceCtorEq, cds] at hc_) <;> (try (first | contradiction | (exfalso; omega)))) | refine ar_until (And.intro ?_ (wk3 ?_)))
  all_goals (first | refine ar_id ?_ | (try (focus ((try refine nrmO ?_); (repeat' (first | exact True.intro | refine And.intro ?_ ?_)); all_goals (try (intro (hg_ : _ = true); (try simp only [isNilI, inB, reduceCtorEq, cds] at hg_); (repeat' (first | exact True.intro | refine And.intro ?_ ?_)))); all_goals (first | exact ob1 | exact fn_MOkI _ hs.m | skip)))))
  · refine bf fun h => ?_
    rcases hc_ with ((hc_ | hc_) | hc_) | hc_
    · exact of_decide_eq_false hc_ h.1
    · have := h.2.1.1; omega
    · have := h.2.1.2; omega
    · have := h.2.2.2; omega
  have hc1 := hc_
  refine ar_keep 469762071 (by dsimp only [keepS] <;> exact rfl) ?_
  refine ar_forM (k.Refuse.length) (fun i => ∀ y ∈ k.Refuse.take i, 0 ≤ y) (fun i => [(28, (TV.sv (.one (.lit (.int .i64 (i))))))]) (fun i => []) ?_ ?_ ?_
  rotate_left
  · first | trivial | simp
  (dsimp only [rnCap, capSVs, Int.toNat_natCast, ro, Nat.reduceAdd, Nat.reduceMul, Nat.zero_add, List.map, putT, app, wrapG, gOb, argT, keys, slotOf, dropped, gAnd, wB, rnT, rnS, rnC, rnCs, rnSs, rnM, rnB, rnN, rn, lk, St.over, ded, delL, keepT, menT, menSs, menS, menCs, menC, hasN, resT, SV.cells]; refine wk3 ?_; (focus ((try refine nrmO ?_); (repeat' (first | exact True.intro | refine And.intro ?_ ?_)); all_goals (try (intro (hg_ : _ = true); (try simp only [isNilI, inB, reduceCtorEq, cds] at hg_); (repeat' (first | exact True.intro | refine And.intro ?_ ?_)))); all_goals (first | exact ob1 | exact rfl | skip))))
  rotate_right
  intro i hi_ hiI_
  dsimp only [rnCap, capSVs, Int.toNat_natCast, ro, Nat.reduceAdd, Nat.reduceMul, Nat.zero_add, List.map, putT, app, wrapG, gOb, argT, keys, slotOf, dropped, gAnd, wB, rnT, rnS, rnC, rnCs, rnSs, rnM, rnB, rnN, rn, lk, St.over, ded, delL, keepT, menT, menSs, menS, menCs, menC, hasN, resT, SV.cells]
  repeat' (refine ar_id ?_; first | refine st1 ?_ | (first | ((first | refine ar_region (id := 5) tt_ok (inps := [.elem (Tr.eI (k.Refuse.getD i 0))]) rfl ?_ ?_ | refine ar_region tt_ok (inps := []) rfl ?_ ?_); rotate_left; (try refine nrm ?_); rotate_right) | refine ret3 ?_ | refine end3 ?_) | (refine ar_cond rfl trivial ?_ ?_ <;> intro hc_ <;> (try simp only [isNilI, inB, reduceCtorEq, cds] at hc_) <;> (try (first | contradiction | (exfalso; omega)))) | refine ar_until (And.intro ?_ (wk3 ?_)))
  all_goals (first | refine ar_id ?_ | (try (focus ((try refine nrmO ?_); (repeat' (first | exact True.intro | refine And.intro ?_ ?_)); all_goals (try (intro (hg_ : _ = true); (try simp only [isNilI, inB, reduceCtorEq, cds] at hg_); (repeat' (first | exact True.intro | refine And.intro ?_ ?_)))); all_goals (first | exact ob1 | skip)))))
  · exact bf fun h => by have := h.2.2.1 _ (getD_in (l := k.Refuse) (i := i) (d := 0) (by omega)); omega
  · exact all_take (d := 0) hiI_ (by omega) hc_
  · exact bt ⟨of_decide_eq_true hc1.1.1.1, ⟨hc1.1.1.2, hc1.1.2⟩, all_full hiI_ (by omega), by omega⟩
def c_CopyKI (k : GKernel) : CFD := ⟨37, [.agg [ro 33 1 eIntS k.Machine.Frames.Cells, ro 4 1 Tr.eB k.Machine.Frames.Used, ro 47 2 eEntry k.Machine.Table.Entries, (CV.lit (.int .i64 (k.Calls))), ro 3 1 Tr.eI k.Refuse]], [], .sv (.agg [.hd 0, .hd 1, .hd 2, (CV.lit (.int .i64 (k.Calls))), .hd 3]), [(0, some (.row 33 1 (k.Machine.Frames.Cells.map eIntS))), (1, some (.row 4 1 (k.Machine.Frames.Used.map Tr.eB))), (2, some (.row 47 2 (k.Machine.Table.Entries.map eEntry))), (3, some (.row 3 1 (k.Refuse.map Tr.eI)))], [0, 1, 2, 3], []⟩
theorem fn_CopyKI (k : GKernel) (hs : szK k) : Fn Tryz.prog (c_CopyKI k) := by
  have hr := hs.r
  refine fn_intro tt_ok Tryz.func37 rfl Tryz.call37 Tryz.ntmps37 Tryz.results37 rfl rfl rfl rfl ?_
  intro X ρ0 hb_ hgl_
  dsimp only [c_CopyKI]
  try refine nrm ?_
  repeat' (refine ar_id ?_; first | refine st1 ?_ | (first | ((first | refine ar_draw (id := 1) (inps := [.call (c_CopyMI k.Machine), .call (c_CloneI k.Refuse)]) tt_ok (by kernel_rfl) rfl rfl (by kernel_rfl) rfl rfl rfl rfl ?_ ?_ | refine ar_region tt_ok (inps := []) rfl ?_ ?_); rotate_left; (try dsimp only [c_CloneI, c_CopyMI]); (try refine nrm ?_); rotate_right) | refine ret3 ?_ | refine end3 ?_) | (refine ar_cond rfl trivial ?_ ?_ <;> intro hc_ <;> (try simp only [isNilI, inB, reduceCtorEq, cds] at hc_) <;> (try (first | contradiction | (exfalso; omega)))) | refine ar_until (And.intro ?_ (wk3 ?_)))
  all_goals (first | refine ar_id ?_ | (try (focus ((try refine nrmO ?_); (repeat' (first | exact True.intro | refine And.intro ?_ ?_)); all_goals (try (intro (hg_ : _ = true); (try simp only [isNilI, inB, reduceCtorEq, cds] at hg_); (repeat' (first | exact True.intro | refine And.intro ?_ ?_)))); all_goals (first | exact ob1 | exact fn_CopyMI _ hs.m | exact fn_CloneI _ hs.r | skip)))))
end Eng
end Go.Proofs.YtgeakpeodhhffaaGreatDoor
namespace Go.Proofs.YtgeakpeodhhffaaGreatDoor
open Go.RowKit
set_option linter.unusedVariables false
namespace Eng
open Tr
theorem okF_sz {f : GFrames} (h : okF f) : f.Cells.length ≤ 32 ∧ f.Used.length ≤ 32 ∧ ∀ r ∈ f.Cells, r.length ≤ 16 := by
  refine ⟨h.1.2, by have := h.1.2; have := h.2.1; omega, fun r hr => ?_⟩
  obtain ⟨i, hi⟩ := List.getElem?_of_mem hr
  have hl := (List.getElem?_eq_some_iff.1 hi).1
  have hu : f.Used[i]? = some (f.Used.getD i false) := getD_at (by have := h.2.1; omega)
  have := h.2.2 _ (List.mem_of_getElem? (zip_at hi hu))
  have := this.1
  show r.length ≤ 16
  simp only at this
  omega
theorem okK_sz {k : GKernel} (h : okK k) : szK k := by
  obtain ⟨h1, h2, h3⟩ := okF_sz h.1.1
  have h4 := h.1.2.1
  unfold pTableOk at h4
  have h5 := of_decide_eq_true h4
  exact ⟨⟨by omega, by omega, fun r hr => by have := h3 r hr; omega, by omega⟩, by have := h.2.2.2; omega⟩
end Eng
end Go.Proofs.YtgeakpeodhhffaaGreatDoor
namespace Go.Proofs.YtgeakpeodhhffaaGreatDoor
open Go.RowKit
set_option linter.unusedVariables false
set_option linter.unusedSimpArgs false
set_option maxRecDepth 100000
namespace Tr
theorem okF_row16 {fr : GFrames} (h : okF fr) {i : Nat} {u : Bool} {r : List Int} (hu : fr.Used[i]? = some u) (hr : okRow u r) : okF ⟨fr.Cells.set i r, fr.Used⟩ := by
  refine ⟨by simpa using h.1, by simpa using h.2.1, ?_⟩
  intro p hp
  obtain ⟨j, hj⟩ := List.getElem?_of_mem hp
  rw [List.getElem?_zip_eq_some] at hj
  obtain ⟨h1, h2⟩ := hj
  rw [List.getElem?_set] at h1
  by_cases e : i = j
  · subst e
    rw [if_pos rfl] at h1
    split at h1
    · have e1 : r = p.1 := Option.some.inj h1
      have e2 : u = p.2 := Option.some.inj (hu.symm.trans h2)
      rw [← e1, ← e2]; exact hr
    · cases h1
  · rw [if_neg e] at h1
    exact h.2.2 p (List.mem_of_getElem? (zip_at h1 h2))
theorem getD_row16 {l : List (List Int)} {i : Nat} {r : List Int} (h : l[i]? = some r) : l.getD i [] = r := by rw [List.getD_eq_getElem?_getD, h]; rfl
theorem okM_put {m : GMachine} (h : okM m) {addr v : Int} (hC : canLoad m addr) (hv : 0 ≤ v ∧ v ≤ 999) : okM (setCellOf m (pEntry m addr).1.Frame (pEntry m addr).2 v) := by
  obtain ⟨ha, f, k, r, hf, hk, k1, k2, k3, k4, k5⟩ := load_at hC
  have hm := hC.2
  have hf' := hf
  unfold pEntry at hm hf'
  rw [if_neg (by omega)] at hm hf'
  have hu : m.Frames.Used[f]? = some true := okM_used h hm hf' k3
  obtain ⟨h1, h2, h3⟩ := h
  unfold setCellOf
  rw [hf, hk, Int.toNat_natCast, Int.toNat_natCast, getD_row16 k4]
  have hr := h1.2.2 _ (List.mem_of_getElem? (zip_at k4 hu))
  refine ⟨okF_row16 h1 hu ⟨by rw [List.length_set]; exact hr.1, fun x hx => ?_⟩, ?_, h3⟩
  · rcases List.mem_or_eq_of_mem_set hx with hx | hx
    · exact hr.2 x hx
    · rw [hx]; exact ⟨hv, .inl rfl⟩
  · show pTableOk m.Table (((m.Frames.Cells.set f _).length : Nat) : Int) = true
    rw [List.length_set]
    exact h2
theorem m44o : okM (pMachineNew 4 4).1 := by decide +kernel
theorem new44 {r : List Int} (h0 : ∀ x ∈ r, 0 ≤ x) (hl : r.length ≤ 40) : pKernelNew 4 4 r = (⟨(pMachineNew 4 4).1, 0, r⟩, true) ∧ okK ⟨(pMachineNew 4 4).1, 0, r⟩ ∧ modeOf ⟨(pMachineNew 4 4).1, 0, r⟩ 0 = 0 := by
  have hk0 : okK ⟨(pMachineNew 4 4).1, 0, r⟩ := ⟨m44o, ⟨Int.le_refl _, (by show (0 : Int) ≤ 100000; decide)⟩, h0, by show r.length ≤ 40; omega⟩
  refine ⟨if_pos ⟨by decide, hk0⟩, hk0, ?_⟩
  show (pPageEntry (pMachineNew 4 4).1.Table 0).Mode = 0
  decide +kernel
theorem entry_setE (m : GMachine) {p : Int} (h0 : 0 ≤ p) (e : GEntry) (q : Int) : pPageEntry (setEntry m p.toNat e).Table q = if q = p ∧ p < m.Table.Entries.length then e else pPageEntry m.Table q := by
  unfold pPageEntry setEntry
  dsimp only
  rw [List.length_set]
  by_cases hq : 0 ≤ q ∧ q < m.Table.Entries.length
  · rw [if_pos hq, if_pos hq, List.getD_eq_getElem?_getD, List.getElem?_set]
    by_cases e1 : q = p
    · subst e1
      rw [if_pos rfl, if_pos (by omega), if_pos ⟨rfl, hq.2⟩]; rfl
    · rw [if_neg (by omega), if_neg (fun x => e1 x.1), List.getD_eq_getElem?_getD]
  · rw [if_neg hq, if_neg hq, if_neg (fun x => hq ⟨by omega, by omega⟩)]
/-- one page more: what it leaves -/
theorem new_step {k : GKernel} (hk : canCall k) (p : Int) : okK (pNew k p).1 ∧ (pNew k p).1.Calls = k.Calls + 1 ∧ ((pNew k p).2 = false → (pNew k p).1.Machine = k.Machine) ∧ ((pNew k p).2 = true → modeOf (pNew k p).1 p = 2 ∧ ∀ q, q ≠ p → modeOf (pNew k p).1 q = modeOf k q) := by
  have hl := law_new hk p
  unfold pKMapNew at hl
  rw [if_pos hk] at hl
  refine ⟨hl.ok, hl.calls, hl.same, fun hb => ?_⟩
  unfold pNew at hb ⊢
  by_cases hc : granted k ∧ (0 ≤ p ∧ p < k.Machine.Table.Entries.length) ∧ modeOf k p = 0 ∧ 0 ≤ pFree k.Machine.Frames
  · rw [if_pos hc]
    have h0 := hc.2.1.1
    refine ⟨?_, fun q hq => ?_⟩
    · show (pPageEntry (setEntry ⟨⟨_, _⟩, k.Machine.Table⟩ p.toNat _).Table p).Mode = 2
      rw [entry_setE _ h0, if_pos ⟨rfl, hc.2.1.2⟩]
    · show (pPageEntry (setEntry ⟨⟨_, _⟩, k.Machine.Table⟩ p.toNat _).Table q).Mode = _
      rw [entry_setE _ h0, if_neg (fun x => hq x.1)]
      rfl
  · rw [if_neg hc] at hb
    cases hb
theorem prot_step {k : GKernel} (hk : canCall k) (p : Int) : okK (pProtect k p 1).1 ∧ (pProtect k p 1).1.Calls = k.Calls + 1 ∧ ∀ q, modeOf k q ≠ 0 → modeOf (pProtect k p 1).1 q ≠ 0 := by
  have hl := law_protect hk p 1
  unfold pKProtect at hl
  rw [if_pos hk] at hl
  refine ⟨hl.ok, hl.calls, fun q hq => ?_⟩
  unfold pProtect
  by_cases hc : granted k ∧ modeOf k p ≠ 0 ∧ (1 ≤ (1 : Int) ∧ (1 : Int) ≤ 2)
  · rw [if_pos hc]
    show (pPageEntry (setEntry k.Machine p.toNat ⟨1, _⟩).Table q).Mode ≠ 0
    have h0 : 0 ≤ p := by
      have := hc.2.1
      unfold modeOf pPageEntry at this
      split at this
      · rename_i h; exact h.1
      · exact absurd rfl this
    rw [entry_setE _ h0]
    split
    · show (1 : Int) ≠ 0; decide
    · exact hq
  · rw [if_neg hc]; exact hq
end Tr
end Go.Proofs.YtgeakpeodhhffaaGreatDoor
namespace Go.Proofs.YtgeakpeodhhffaaGreatDoor
open Go.RowKit
set_option linter.unusedVariables false
set_option linter.unusedSimpArgs false
set_option maxRecDepth 100000
namespace Eng
open Tr
theorem szK8_ok {k : GKernel} (h : okK k) : szK8 k := by have := okK_sz h; exact ⟨⟨this.m.c, this.m.u, this.m.r, this.m.e⟩, this.r⟩
theorem szM7_ok {m : GMachine} (h : okM m) : szM7 m := (szK8_ok (k := ⟨m, 0, []⟩) ⟨h, ⟨Int.le_refl _, (by show (0 : Int) ≤ 100000; decide)⟩, fun x hx => (by cases hx), Nat.zero_le _⟩).m
def adr (p : Int) (x : Int) : Int := p * 16 + x
/-- the contents of a page's cells, as0 they are drawn -/
def cpS (bs : List Int) (p : Int) (cells : List Int) (s : GMachine × Cu) : Nat → GMachine × Cu
  | 0 => s
  | i + 1 => (setCellOf (cpS bs p cells s i).1 (pEntry (cpS bs p cells s i).1 (adr p (cells.getD i 0))).1.Frame (pEntry (cpS bs p cells s i).1 (adr p (cells.getD i 0))).2 (1 + (dBelow bs (cpS bs p cells s i).2 999).1), (dBelow bs (cpS bs p cells s i).2 999).2)
theorem pEntry_adr (m : GMachine) {p x : Int} (hp : 0 ≤ p) (hx : 0 ≤ x ∧ x ≤ 15) : pEntry m (adr p x) = (pPageEntry m.Table p, x) := by
  unfold pEntry adr
  rw [if_neg (by omega), show (p * 16 + x) / 16 = p by omega, show (p * 16 + x) % 16 = x by omega]
theorem cpS_facts {bs : List Int} {p : Int} {cells : List Int} {s : GMachine × Cu} (hp : 0 ≤ p) (hm : (pPageEntry s.1.Table p).Mode = 2) (ho : okM s.1) (hc : okCu bs s.2) (hx : ∀ x ∈ cells, 0 ≤ x ∧ x ≤ 15) : ∀ i, i ≤ cells.length → okM (cpS bs p cells s i).1 ∧ (cpS bs p cells s i).1.Table = s.1.Table ∧ okCu bs (cpS bs p cells s i).2
  | 0, _ => ⟨ho, rfl, hc⟩
  | i + 1, hi => by
    obtain ⟨h1, h2, h3⟩ := cpS_facts hp hm ho hc hx i (by omega)
    have hxi := hx _ (getD_in (l := cells) (i := i) (d := 0) (by omega))
    have hb := dBelow_lt bs (cpS bs p cells s i).2 999 (by decide)
    have hC : canLoad (cpS bs p cells s i).1 (adr p (cells.getD i 0)) := ⟨h1, by rw [pEntry_adr _ hp hxi, h2]; show (pPageEntry s.1.Table p).Mode ≠ 0; rw [hm]; decide⟩
    exact ⟨okM_put h1 hC (by omega), h2, dBelow_ok _ h3⟩
structure DS where
  k : GKernel
  ss : List GSpan
  c : Cu
def sp16 (bs : List Int) (cl : Int) (s : DS) (p : Nat) : GSpan := ⟨(p : Int), cl, (dMap bs s.c (Cl.slots cl)).1⟩
def pt16 (bs : List Int) (cl : Int) (s : DS) (p : Nat) : GMachine × Cu :=
  cpS bs (p : Int) (pSpanCells (sp16 bs cl s p)) ((pNew s.k (p : Int)).1.Machine, (dMap bs s.c (Cl.slots cl)).2) (pSpanCells (sp16 bs cl s p)).length
def k16 (bs : List Int) (cl : Int) (s : DS) (p : Nat) : GKernel := ⟨(pt16 bs cl s p).1, (pNew s.k (p : Int)).1.Calls, (pNew s.k (p : Int)).1.Refuse⟩
def pgStep (bs : List Int) (cl : Int) (s : DS) (p : Nat) : DS :=
  if (pNew s.k (p : Int)).2 = true then
    ⟨if (dBelow bs (pt16 bs cl s p).2 4).1 = 0 then (pProtect (k16 bs cl s p) (p : Int) 1).1 else k16 bs cl s p, s.ss ++ [sp16 bs cl s p], (dBelow bs (pt16 bs cl s p).2 4).2⟩
  else ⟨(pNew s.k (p : Int)).1, s.ss, s.c⟩
def pgS (bs : List Int) (cl : Int) (s : DS) : Nat → DS
  | 0 => s
  | p + 1 => pgStep bs cl (pgS bs cl s p) p
def d0 (bs : List Int) (c : Cu) : DS := ⟨⟨(pMachineNew 4 4).1, 0, (dRef bs c).1⟩, [], (dBelow bs (dRef bs c).2 4).2⟩
def dCase (bs : List Int) (c : Cu) : DS := pgS bs (dBelow bs (dRef bs c).2 4).1 (d0 bs c) 3
/-- what is known of such a kernel -/
structure DInv (bs : List Int) (s : DS) (p : Nat) : Prop where
  ok : okK s.k
  calls : s.k.Calls ≤ 2 * (p : Int)
  cu : okCu bs s.c
  sp : ∀ x ∈ s.ss, pSpanOk x = true ∧ modeOf s.k x.Page ≠ 0 ∧ x.Page < (p : Int)
  n : s.ss.length ≤ p
  none : s.ss = [] → modeOf s.k 0 = 0
theorem sp16_ok (bs : List Int) {cl : Int} (s : DS) {p : Nat} (hp : p < 3) (hcl : 0 ≤ cl ∧ cl < 4) : pSpanOk (sp16 bs cl s p) = true := by
  have hb := dMap_bd bs s.c (Cl.slots cl)
  have h4 : cl = 0 ∨ cl = 1 ∨ cl = 2 ∨ cl = 3 := by omega
  have hs : 1 ≤ Cl.slots cl ∧ Cl.slots cl ≤ 16 := by rcases h4 with rfl | rfl | rfl | rfl <;> decide
  unfold pSpanOk sp16
  dsimp only
  rw [Bool.and_eq_true, decide_eq_true_eq]
  refine ⟨by omega, ?_⟩
  unfold Bm.isMap
  rw [decide_eq_true_eq]
  refine ⟨hs.1, hs.2, hb.1, ?_⟩
  have : ((2 : Int) ^ (Cl.slots cl).toNat) = ((2 ^ (Cl.slots cl).toNat : Nat) : Int) := by simp
  rw [this]; exact hb.2
theorem cells_bd (s : GSpan) : ∀ x ∈ pSpanCells s, 0 ≤ x ∧ x ≤ 15 := by
  intro x hx
  unfold pSpanCells at hx
  split at hx
  · unfold inUse at hx
    obtain ⟨i, hi, rfl⟩ := List.mem_map.1 hx
    have := List.mem_range.1 (List.mem_filter.1 hi).1
    omega
  · cases hx
theorem pg_in {bs : List Int} {cl : Int} {s : DS} {p : Nat} (h : DInv bs s p) (hp : p < 3) (hcl : 0 ≤ cl ∧ cl < 4) (hb : (pNew s.k (p : Int)).2 = true) : canCall s.k ∧ (∀ i, i ≤ (pSpanCells (sp16 bs cl s p)).length → okM (cpS bs (p : Int) (pSpanCells (sp16 bs cl s p)) ((pNew s.k (p : Int)).1.Machine, (dMap bs s.c (Cl.slots cl)).2) i).1 ∧ (cpS bs (p : Int) (pSpanCells (sp16 bs cl s p)) ((pNew s.k (p : Int)).1.Machine, (dMap bs s.c (Cl.slots cl)).2) i).1.Table = (pNew s.k (p : Int)).1.Machine.Table ∧ okCu bs (cpS bs (p : Int) (pSpanCells (sp16 bs cl s p)) ((pNew s.k (p : Int)).1.Machine, (dMap bs s.c (Cl.slots cl)).2) i).2) ∧ okK (k16 bs cl s p) ∧ (pPageEntry (pNew s.k (p : Int)).1.Machine.Table (p : Int)).Mode = 2 := by
  have hcc : canCall s.k := ⟨h.ok, by have := h.calls; omega⟩
  obtain ⟨n1, n2, n3, n4⟩ := new_step hcc (p : Int)
  obtain ⟨n5, n6⟩ := n4 hb
  have hf := cpS_facts (bs := bs) (p := (p : Int)) (cells := pSpanCells (sp16 bs cl s p)) (s := ((pNew s.k (p : Int)).1.Machine, (dMap bs s.c (Cl.slots cl)).2)) (by omega) n5 n1.1 (dMap_ok _ h.cu) (cells_bd _)
  exact ⟨hcc, hf, ⟨(hf _ (Nat.le_refl _)).1, n1.2⟩, n5⟩
theorem pg_inv {bs : List Int} {cl : Int} {s : DS} {p : Nat} (h : DInv bs s p) (hp : p < 3) (hcl : 0 ≤ cl ∧ cl < 4) : DInv bs (pgStep bs cl s p) (p + 1) := by
  have hcc : canCall s.k := ⟨h.ok, by have := h.calls; omega⟩
  obtain ⟨n1, n2, n3, n4⟩ := new_step hcc (p : Int)
  have hca := h.calls
  unfold pgStep
  by_cases hb : (pNew s.k (p : Int)).2 = true
  · rw [if_pos hb]
    obtain ⟨n5, n6⟩ := n4 hb
    obtain ⟨_, g1, g2, g3⟩ := pg_in h hp hcl hb
    obtain ⟨_, t2, t3⟩ := g1 _ (Nat.le_refl _)
    have hm : ∀ q, modeOf (k16 bs cl s p) q = modeOf (pNew s.k (p : Int)).1 q := fun q => by unfold modeOf k16 pt16; rw [t2]
    have hck : (k16 bs cl s p).Calls = s.k.Calls + 1 := n2
    have hold : ∀ x ∈ s.ss ++ [sp16 bs cl s p], pSpanOk x = true ∧ modeOf (k16 bs cl s p) x.Page ≠ 0 ∧ x.Page < ((p + 1 : Nat) : Int) := by
      intro x hx
      rw [List.mem_append, List.mem_singleton] at hx
      rcases hx with hx | rfl
      · obtain ⟨q1, q2, q3⟩ := h.sp x hx
        refine ⟨q1, ?_, by omega⟩
        rw [hm, n6 _ (by omega)]; exact q2
      · refine ⟨sp16_ok bs s hp hcl, ?_, by show (p : Int) < _; omega⟩
        rw [hm]; show modeOf _ (p : Int) ≠ 0; rw [n5]; decide
    have hcu : okCu bs (dBelow bs (pt16 bs cl s p).2 4).2 := dBelow_ok _ t3
    by_cases ho : (dBelow bs (pt16 bs cl s p).2 4).1 = 0
    · rw [if_pos ho]
      obtain ⟨r1, r2, r3⟩ := prot_step (k := k16 bs cl s p) ⟨g2, by omega⟩ (p : Int)
      refine ⟨r1, by rw [r2, hck]; omega, hcu, fun x hx => ?_, by rw [List.length_append]; have := h.n; show _ + 1 ≤ _; omega, fun hx => by simp at hx⟩
      obtain ⟨q1, q2, q3⟩ := hold x hx
      exact ⟨q1, r3 _ q2, q3⟩
    · rw [if_neg ho]
      exact ⟨g2, by rw [hck]; omega, hcu, hold, by rw [List.length_append]; have := h.n; show _ + 1 ≤ _; omega, fun hx => by simp at hx⟩
  · rw [if_neg hb]
    have hM := n3 (by simpa using hb)
    have hm : ∀ q, modeOf (pNew s.k (p : Int)).1 q = modeOf s.k q := fun q => by unfold modeOf; rw [hM]
    exact ⟨n1, by rw [n2]; omega, h.cu, fun x hx => by obtain ⟨q1, q2, q3⟩ := h.sp x hx; exact ⟨q1, by rw [hm]; exact q2, by omega⟩, Nat.le_trans h.n (Nat.le_succ p), fun hx => by rw [hm]; exact h.none hx⟩
theorem d0_inv {bs : List Int} {c : Cu} (hc : okCu bs c) : DInv bs (d0 bs c) 0 ∧ okCu bs (dRef bs c).2 ∧ (∀ x ∈ (dRef bs c).1, 0 ≤ x) ∧ (dRef bs c).1.length ≤ 4 := by
  have hrf := rGo_facts bs 4 0 ([], c) hc (fun x hx => nomatch hx)
  obtain ⟨of, f0, fl⟩ := hrf
  have fl4 : (dRef bs c).1.length ≤ 4 := Nat.le_trans fl (by simp)
  obtain ⟨k1, k2, k3⟩ := new44 (r := (dRef bs c).1) f0 (by omega)
  exact ⟨⟨k2, Int.le_refl _, dBelow_ok _ of, fun x hx => (by cases hx), Nat.le_refl _, fun _ => k3⟩, of, f0, fl4⟩
theorem pgS_inv {bs : List Int} {cl : Int} {s : DS} (h : DInv bs s 0) (hcl : 0 ≤ cl ∧ cl < 4) : ∀ p, p ≤ 3 → DInv bs (pgS bs cl s p) p
  | 0, _ => h
  | p + 1, hp => pg_inv (pgS_inv h hcl p (by omega)) (by omega) hcl
theorem dCase_inv {bs : List Int} {c : Cu} (hc : okCu bs c) : DInv bs (dCase bs c) 3 := pgS_inv (d0_inv hc).1 (dBelow_lt bs _ 4 (by decide)) 3 (Nat.le_refl _)
end Eng
end Go.Proofs.YtgeakpeodhhffaaGreatDoor
namespace Go.Proofs.YtgeakpeodhhffaaGreatDoor
open Go.RowKit
set_option linter.unusedVariables false
set_option linter.unusedSimpArgs false
set_option maxRecDepth 100000
namespace Eng
open Tr
def c_Ref16 (bs : List Int) (c : Cu) : CFD := ⟨73, [.one (.box 0 0)], [(0, some (.box 130 [ro 5 1 eU bs, (CV.lit (.int .i64 (((c).i : Int)))), (CV.lit (.int .i64 ((c).h)))]))], .sv (.one (.hd 7)), [(0, some (.box 130 [ro 5 1 eU bs, (CV.lit (.int .i64 ((((dRef bs c).2).i : Int)))), (CV.lit (.int .i64 (((dRef bs c).2).h)))])), (7, some (.row 3 1 ((dRef bs c).1.map Tr.eI)))], [7], []⟩
theorem fn_Ref16 (bs : List Int) (c : Cu) (hc : okCu bs c) : Fn Tryz.prog (c_Ref16 bs c) := by
  obtain ⟨V, hV⟩ : ∃ V, dRef bs c = V := ⟨_, rfl⟩
  have hVe : V = rGo bs 4 0 ([], c) := hV.symm
  have hok := rS_ok hc
  have hlen := rS_len bs c
  have h0 : rS bs c 0 = ([], c) := rfl
  have hS : ∀ i, rS bs c (i + 1) = ((rS bs c i).1 ++ [(dBelow bs (dBelow bs (rS bs c i).2 4).2 12).1], (dBelow bs (dBelow bs (rS bs c i).2 4).2 12).2) := fun _ => rfl
  generalize rS bs c = T at *
  have hB : V = rGo bs (4 - 0) 0 (T 0) := by rw [h0]; exact hVe
  refine fn_intro tt_ok Tryz.func73 rfl Tryz.call73 Tryz.ntmps73 Tryz.results73 rfl rfl rfl rfl ?_
  intro X ρ0 hb_ hgl_
  dsimp only [c_Ref16]
  try refine nrm ?_
  rw [hV]
  repeat' (refine ar_id ?_; first | refine st1 ?_ | (first | ((first | refine ar_region tt_ok (inps := []) rfl ?_ ?_); rotate_left; (try refine nrm ?_); rotate_right) | refine ret3 ?_ | refine end3 ?_) | (refine ar_cond rfl trivial ?_ ?_ <;> intro hc_ <;> (try simp only [isNilI, inB, reduceCtorEq, cds] at hc_) <;> (try (first | contradiction | (exfalso; omega)))) | refine ar_until (And.intro ?_ (wk3 ?_)))
  all_goals (first | refine ar_id ?_ | (try (focus ((try refine nrmO ?_); (repeat' (first | exact True.intro | refine And.intro ?_ ?_)); all_goals (try (intro (hg_ : _ = true); (try simp only [isNilI, inB, reduceCtorEq, cds] at hg_); (repeat' (first | exact True.intro | refine And.intro ?_ ?_)))); all_goals (first | exact ob1 | skip)))))
  refine ar_keep 29 (by dsimp only [keepS] <;> exact rfl) ?_
  refine ar_forM (4) (fun i => V = rGo bs (4 - i) i (T i)) (fun i => [(4, (TV.sv (.one (.lit (.int .i64 (i)))))), (3, (TV.sv (.one (.hd 5))))]) (fun i => [(5, some (.row 3 1 ((T i).1.map Tr.eI))), (0, some ((.box 130 [ro 5 1 eU bs, (CV.lit (.int .i64 ((((T i).2).i : Int)))), (CV.lit (.int .i64 (((T i).2).h)))])))]) ?_ ?_ ?_
  rotate_left
  · first | trivial | simp
  (dsimp only [rnCap, capSVs, Int.toNat_natCast, ro, Nat.reduceAdd, Nat.reduceMul, Nat.zero_add, List.map, putT, app, wrapG, gOb, argT, keys, slotOf, dropped, gAnd, wB, rnT, rnS, rnC, rnCs, rnSs, rnM, rnB, rnN, rn, lk, St.over, ded, delL, keepT, menT, menSs, menS, menCs, menC, hasN, resT, SV.cells]; refine wk3 ?_; (focus ((try refine nrmO ?_); (repeat' (first | exact True.intro | refine And.intro ?_ ?_)); all_goals (try (intro (hg_ : _ = true); (try simp only [isNilI, inB, reduceCtorEq, cds] at hg_); (repeat' (first | exact True.intro | refine And.intro ?_ ?_)))); all_goals (first | exact ob1 | exact rfl | skip))))
  rotate_right
  intro i hi_ hiI_
  dsimp only [rnCap, capSVs, Int.toNat_natCast, ro, Nat.reduceAdd, Nat.reduceMul, Nat.zero_add, List.map, putT, app, wrapG, gOb, argT, keys, slotOf, dropped, gAnd, wB, rnT, rnS, rnC, rnCs, rnSs, rnM, rnB, rnN, rn, lk, St.over, ded, delL, keepT, menT, menSs, menS, menCs, menC, hasN, resT, SV.cells]
  obtain ⟨v, hv⟩ : ∃ v, dBelow bs (T i).2 4 = v := ⟨_, rfl⟩
  have hv4 : 0 ≤ v.1 ∧ v.1 < 4 := hv ▸ dBelow_lt bs _ 4 (by decide)
  have o2 : okCu bs v.2 := hv ▸ dBelow_ok _ (hok i)
  obtain ⟨x, hx⟩ : ∃ x, dBelow bs v.2 12 = x := ⟨_, rfl⟩
  have hSi := hS i
  rw [hv, hx] at hSi
  repeat' (refine ar_id ?_; first | refine st1 ?_ | (refine ar_run (id := 3) [.call (c_BelowR bs (T i).2 4 v)] ?_; generalize hQ_ : kont _ _ _ _ = Q_; repeat' (first | (focus ((first | refine as_call3 tt_ok ?_ ?_ | refine as_sure3 tt_ok ?_ ?_ | refine as_cons3 tt_ok ?_ ?_); (try dsimp only [c_BelowR]); (try refine nrm ?_); rotate_left)) | (subst hQ_; refine as_nil ?_))) | (refine ar_run (id := 5) [.call (c_BelowR bs v.2 12 x)] ?_; generalize hQ_ : kont _ _ _ _ = Q_; repeat' (first | (focus ((first | refine as_call3 tt_ok ?_ ?_ | refine as_sure3 tt_ok ?_ ?_ | refine as_cons3 tt_ok ?_ ?_); (try dsimp only [c_BelowR]); (try refine nrm ?_); rotate_left)) | (subst hQ_; refine as_nil ?_))) | (first | ((first | refine ar_region tt_ok (inps := []) rfl ?_ ?_); rotate_left; (try dsimp only [c_BelowR]); (try refine nrm ?_); rotate_right) | refine ret3 ?_ | refine end3 ?_) | (refine ar_cond rfl trivial ?_ ?_ <;> intro hc_ <;> (try simp only [isNilI, inB, reduceCtorEq, cds] at hc_) <;> (try (first | contradiction | (exfalso; omega)))) | refine ar_until (And.intro ?_ (wk3 ?_)))
  all_goals (first | refine ar_id ?_ | (try (focus ((try refine nrmO ?_); (repeat' (first | exact True.intro | refine And.intro ?_ ?_)); all_goals (try (intro (hg_ : _ = true); (try simp only [isNilI, inB, reduceCtorEq, cds] at hg_); (repeat' (first | exact True.intro | refine And.intro ?_ ?_)))); all_goals (first | exact ob1 | exact fn_BelowR _ _ _ _ (hok i) hv | exact fn_BelowR _ _ _ _ o2 hx | skip)))))
  · simp only [List.length_map, hlen, List.length_cons, List.length_nil]; omega
  · have hlt : (i : Int) < (dBelow bs (T i).2 4).1 := by rw [hv]; exact hc_
    rw [hiI_, rGo_in bs hlt rfl, hS i]
  · rw [hSi, List.map_append, app_eq]; rfl
  · rw [hSi]
  · rw [hSi]
  all_goals first
    | (have hge : ¬ (i : Int) < (dBelow bs (T i).2 4).1 := by rw [hv]; omega
       rw [hiI_, rGo_out bs hge, hv]; done)
    | (rw [h0]; done)
    | (rw [h0]; rfl)
def c_RefR16 (bs : List Int) (c : Cu) (r : List Int × Cu) : CFD := ⟨73, [.one (.box 0 0)], [(0, some (.box 130 [ro 5 1 eU bs, (CV.lit (.int .i64 (((c).i : Int)))), (CV.lit (.int .i64 ((c).h)))]))], .sv (.one (.hd 7)), [(0, some (.box 130 [ro 5 1 eU bs, (CV.lit (.int .i64 (((r.2).i : Int)))), (CV.lit (.int .i64 ((r.2).h)))])), (7, some (.row 3 1 (r.1.map Tr.eI)))], [7], []⟩
theorem fn_RefR16 (bs : List Int) (c : Cu) (r : List Int × Cu) (hc : okCu bs c) (h : dRef bs c = r) : Fn Tryz.prog (c_RefR16 bs c r) := h ▸ fn_Ref16 bs c hc
def c_New16 (k : GKernel) (page : Int) (k' : GKernel) (b : Bool) : CFD := ⟨74, [.one (.box 0 0), (SV.one (.lit (.int .i64 (page))))], [(0, some (.box 35 [.hd 1, .hd 2, .hd 3, (CV.lit (.int .i64 (k.Calls))), .hd 4])), (1, some (.row 33 1 (k.Machine.Frames.Cells.map eIntS))), (2, some (.row 4 1 (k.Machine.Frames.Used.map Tr.eB))), (3, some (.row 47 2 (k.Machine.Table.Entries.map eEntry))), (4, some (.row 3 1 (k.Refuse.map Tr.eI)))], (TV.sv (.one (.lit (.bool (b))))), [(0, some (.box 35 [.hd 1, .hd 2, .hd 3, (CV.lit (.int .i64 ((k').Calls))), .hd 4])), (1, some (.row 33 1 ((k').Machine.Frames.Cells.map eIntS))), (2, some (.row 4 1 ((k').Machine.Frames.Used.map Tr.eB))), (3, some (.row 47 2 ((k').Machine.Table.Entries.map eEntry))), (4, some (.row 3 1 ((k').Refuse.map Tr.eI)))], [], []⟩
theorem fn_New16 (k : GKernel) (page : Int) (k' : GKernel) (b : Bool) (hs : szK8 k) (h0 : 0 ≤ k.Calls) (h1 : k.Calls < 100000) (h : pNew k page = (k', b)) : Fn Tryz.prog (c_New16 k page k' b) := by
  have h' := fn_New k page hs h0 h1
  unfold c_New at h'
  rw [h] at h'
  exact h'
def c_Prot16 (k : GKernel) (page mode : Int) (k' : GKernel) (b : Bool) : CFD := ⟨79, [.one (.box 0 0), (SV.one (.lit (.int .i64 (page)))), (SV.one (.lit (.int .i64 (mode))))], [(0, some (.box 35 [.hd 1, .hd 2, .hd 3, (CV.lit (.int .i64 (k.Calls))), .hd 4])), (1, some (.row 33 1 (k.Machine.Frames.Cells.map eIntS))), (2, some (.row 4 1 (k.Machine.Frames.Used.map Tr.eB))), (3, some (.row 47 2 (k.Machine.Table.Entries.map eEntry))), (4, some (.row 3 1 (k.Refuse.map Tr.eI)))], (TV.sv (.one (.lit (.bool (b))))), [(0, some (.box 35 [.hd 1, .hd 2, .hd 3, (CV.lit (.int .i64 ((k').Calls))), .hd 4])), (1, some (.row 33 1 ((k').Machine.Frames.Cells.map eIntS))), (2, some (.row 4 1 ((k').Machine.Frames.Used.map Tr.eB))), (3, some (.row 47 2 ((k').Machine.Table.Entries.map eEntry))), (4, some (.row 3 1 ((k').Refuse.map Tr.eI)))], [], []⟩
theorem fn_Prot16 (k : GKernel) (page mode : Int) (k' : GKernel) (b : Bool) (hs : szK8 k) (h0 : 0 ≤ k.Calls) (h1 : k.Calls < 100000) (h : pProtect k page mode = (k', b)) : Fn Tryz.prog (c_Prot16 k page mode k' b) := by
  have h' := fn_Protect k page mode hs h0 h1
  unfold c_Protect at h'
  rw [h] at h'
  exact h'
def c_KNew16 (r : List Int) (k : GKernel) (b : Bool) : CFD := ⟨72, [(SV.one (.lit (.int .i64 (4)))), (SV.one (.lit (.int .i64 (4)))), .one (ro 3 1 Tr.eI r)], [], .tup [.agg [.hd 0, .hd 1, .hd 2, (CV.lit (.int .i64 (k.Calls))), .hd 3], (SV.one (.lit (.bool (b))))], [(0, some (.row 33 1 (k.Machine.Frames.Cells.map eIntS))), (1, some (.row 4 1 (k.Machine.Frames.Used.map Tr.eB))), (2, some (.row 47 2 (k.Machine.Table.Entries.map eEntry))), (3, some (.row 3 1 (k.Refuse.map Tr.eI)))], [0, 1, 2, 3], []⟩
theorem fn_KNew16 (r : List Int) (k : GKernel) (b : Bool) (hr : r.length ≤ 1048576) (h : pKernelNew 4 4 r = (k, b)) : Fn Tryz.prog (c_KNew16 r k b) := by
  have h' := fn_KNew 4 4 r hr (szM7_ok m44o)
  unfold c_KNew at h'
  rw [h] at h'
  exact h'
def c_Cells16 (s : GSpan) (l : List Int) : CFD := ⟨76, [.agg [(CV.lit (.int .i64 (s.Page))), (CV.lit (.int .i64 (s.Class))), (CV.lit (.int .i64 (s.Bits)))]], [], .sv (.one (.hd 0)), [(0, some (.row 3 1 (l.map Tr.eI)))], [0], []⟩
theorem fn_Cells16 (s : GSpan) (l : List Int) (h : pSpanCells s = l) : Fn Tryz.prog (c_Cells16 s l) := by
  have h' := fn_SpanCells s
  unfold c_SpanCells at h'
  rw [h] at h'
  exact h'
theorem zKer16d : List.map CV.lit ti35.z.cells.toList = [.lit (.slice none 0 0), .lit (.slice none 0 0), .lit (.slice none 0 0), (CV.lit (.int .i64 (0))), .lit (.slice none 0 0)] := rfl
def c_Case16 (bs : List Int) (c : Cu) (r : DS) : CFD := ⟨34, [.one (.box 0 0)], [(0, some (.box 130 [ro 5 1 eU bs, (CV.lit (.int .i64 (((c).i : Int)))), (CV.lit (.int .i64 ((c).h)))]))], .tup [.agg [.hd 101, .hd 102, .hd 103, (CV.lit (.int .i64 (r.k.Calls))), .hd 104], .one (.hd 105)], [(0, some (.box 130 [ro 5 1 eU bs, (CV.lit (.int .i64 (((r.c).i : Int)))), (CV.lit (.int .i64 ((r.c).h)))])), (101, some (.row 33 1 (r.k.Machine.Frames.Cells.map eIntS))), (102, some (.row 4 1 (r.k.Machine.Frames.Used.map Tr.eB))), (103, some (.row 47 2 (r.k.Machine.Table.Entries.map eEntry))), (104, some (.row 3 1 (r.k.Refuse.map Tr.eI))), (105, some (.row 41 3 (r.ss.map eSpan)))], [101, 102, 103, 104, 105], []⟩
set_option maxHeartbeats 16000000 in
theorem fn_Case16 (bs : List Int) (c : Cu) (r : DS) (hc : okCu bs c) (h : dCase bs c = r) : Fn Tryz.prog (c_Case16 bs c r) := by
  obtain ⟨hI0, of, f0, fl4⟩ := d0_inv hc
  have hcl := dBelow_lt bs (dRef bs c).2 4 (by decide)
  have hT := pgS_inv hI0 hcl
  have hS : ∀ p, pgS bs (dBelow bs (dRef bs c).2 4).1 (d0 bs c) (p + 1) = pgStep bs (dBelow bs (dRef bs c).2 4).1 (pgS bs (dBelow bs (dRef bs c).2 4).1 (d0 bs c) p) p := fun _ => rfl
  have h0 : pgS bs (dBelow bs (dRef bs c).2 4).1 (d0 bs c) 0 = ⟨⟨(pMachineNew 4 4).1, 0, (dRef bs c).1⟩, [], (dBelow bs (dRef bs c).2 4).2⟩ := rfl
  unfold dCase at h
  obtain ⟨f, hf⟩ : ∃ f, dRef bs c = f := ⟨_, rfl⟩
  rw [hf] at of f0 fl4 hcl hT hS h0 h
  obtain ⟨g, hg⟩ : ∃ g, dBelow bs f.2 4 = g := ⟨_, rfl⟩
  rw [hg] at hcl hT hS h0 h
  obtain ⟨hkn, _, _⟩ := new44 (r := f.1) f0 (by omega)
  have hKN := fn_KNew16 f.1 _ true (by omega) hkn
  generalize (⟨(pMachineNew 4 4).1, 0, f.1⟩ : GKernel) = k0 at hKN h0
  generalize pgS bs g.1 (d0 bs c) = T at *
  subst h
  have hsl : Cl.slots g.1 ≤ 16 := (slots_bd g.1).2
  refine fn_intro tt_ok Tryz.func34 rfl Tryz.call34 Tryz.ntmps34 Tryz.results34 rfl rfl rfl rfl ?_
  intro X ρ0 hb_ hgl_
  dsimp only [c_Case16]
  try refine nrm ?_
  repeat' (refine ar_id ?_; first | refine st1 ?_ | (refine ar_run (id := 1) [.call (c_RefR16 bs c f), .call (c_KNew16 f.1 k0 true)] ?_; generalize hQ_ : kont _ _ _ _ = Q_; repeat' (first | (focus ((first | refine as_call3 tt_ok ?_ ?_ | refine as_sure3 tt_ok ?_ ?_ | refine as_cons3 tt_ok ?_ ?_); (try dsimp only [c_BelowR, c_KNew16, c_RefR16]); (try refine nrm ?_); rotate_left)) | (subst hQ_; refine as_nil ?_))) | (refine ar_run (id := 3) [.call (c_BelowR bs f.2 4 g)] ?_; generalize hQ_ : kont _ _ _ _ = Q_; repeat' (first | (focus ((first | refine as_call3 tt_ok ?_ ?_ | refine as_sure3 tt_ok ?_ ?_ | refine as_cons3 tt_ok ?_ ?_); (try dsimp only [c_BelowR, c_KNew16, c_RefR16]); (try refine nrm ?_); rotate_left)) | (subst hQ_; refine as_nil ?_))) | (first | ((first | refine ar_region tt_ok (inps := []) rfl ?_ ?_); rotate_left; (try dsimp only [c_BelowR, c_KNew16, c_RefR16]); (try refine nrm ?_); rotate_right) | refine ret3 ?_ | refine end3 ?_) | (refine ar_cond rfl trivial ?_ ?_ <;> intro hc_ <;> (try simp only [isNilI, inB, reduceCtorEq, cds] at hc_) <;> (try (first | contradiction | (exfalso; omega)))) | refine ar_until (And.intro ?_ (wk3 ?_)))
  all_goals (first | refine ar_id ?_ | (try (focus ((try refine nrmO ?_); (repeat' (first | exact True.intro | refine And.intro ?_ ?_)); all_goals (try (intro (hg_ : _ = true); (try simp only [isNilI, inB, reduceCtorEq, cds] at hg_); (repeat' (first | exact True.intro | refine And.intro ?_ ?_)))); all_goals (first | exact ob1 | exact fn_RefR16 _ _ _ hc hf | exact hKN | exact fn_BelowR _ _ _ _ of hg | skip)))))
  dsimp only [zKer16d]
  refine ar_blocks [0, 2, 4, 16000, 16001, 16002, 16003, 18] (by dsimp only [selB, hasN] <;> exact rfl) ?_
  refine ar_keep 4061 (by dsimp only [keepS] <;> exact rfl) ?_
  refine ar_forM (3) (fun p => True) (fun p => [(8, (TV.sv (.one (.lit (.int .i64 (p)))))), (6, (TV.sv (.one (.hd 18))))]) (fun p => [(4, some (.box 35 [.hd 16000, .hd 16001, .hd 16002, (CV.lit (.int .i64 (((T p).k).Calls))), .hd 16003])), (16000, some (.row 33 1 (((T p).k).Machine.Frames.Cells.map eIntS))), (16001, some (.row 4 1 (((T p).k).Machine.Frames.Used.map Tr.eB))), (16002, some (.row 47 2 (((T p).k).Machine.Table.Entries.map eEntry))), (16003, some (.row 3 1 (((T p).k).Refuse.map Tr.eI))), (18, some (.row 41 3 ((T p).ss.map eSpan))), (0, some ((.box 130 [ro 5 1 eU bs, (CV.lit (.int .i64 ((((T p).c).i : Int)))), (CV.lit (.int .i64 (((T p).c).h)))])))]) ?_ ?_ ?_
  rotate_left
  · first | trivial | simp
  (dsimp only [rnCap, capSVs, Int.toNat_natCast, ro, Nat.reduceAdd, Nat.reduceMul, Nat.zero_add, List.map, putT, app, wrapG, gOb, argT, keys, slotOf, dropped, gAnd, wB, rnT, rnS, rnC, rnCs, rnSs, rnM, rnB, rnN, rn, lk, St.over, ded, delL, keepT, menT, menSs, menS, menCs, menC, hasN, resT, SV.cells]; refine wk3 ?_; (focus ((try refine nrmO ?_); (repeat' (first | exact True.intro | refine And.intro ?_ ?_)); all_goals (try (intro (hg_ : _ = true); (try simp only [isNilI, inB, reduceCtorEq, cds] at hg_); (repeat' (first | exact True.intro | refine And.intro ?_ ?_)))); all_goals (first | exact ob1 | exact rfl | skip))))
  rotate_right
  intro p hp_ hpI_
  dsimp only [rnCap, capSVs, Int.toNat_natCast, ro, Nat.reduceAdd, Nat.reduceMul, Nat.zero_add, List.map, putT, app, wrapG, gOb, argT, keys, slotOf, dropped, gAnd, wB, rnT, rnS, rnC, rnCs, rnSs, rnM, rnB, rnN, rn, lk, St.over, ded, delL, keepT, menT, menSs, menS, menCs, menC, hasN, resT, SV.cells]
  by_cases hp3 : p < 3
  · have hIp := hT p (by omega)
    have hSp := hS p
    unfold pgStep at hSp
    have hok := szK8_ok hIp.ok
    have hca := hIp.calls
    have hca0 := hIp.ok.2.1.1
    have hnp := hIp.n
    by_cases hb : (pNew (T p).k (p : Int)).2 = true
    · obtain ⟨hcc, g1, g2, g3⟩ := pg_in hIp hp3 hcl hb
      have hnc := (new_step hcc (p : Int)).2.1
      have hsr := (new_step hcc (p : Int)).1
      rw [if_pos hb] at hSp
      have hspo := sp16_ok bs (T p) hp3 hcl
      have hcb := cells_bd (sp16 bs g.1 (T p) p)
      unfold k16 pt16 at hSp g2
      unfold sp16 at hSp g1 g2 hspo hcb
      obtain ⟨nk, hnk⟩ : ∃ nk, pNew (T p).k (p : Int) = (nk, true) := ⟨_, Prod.ext rfl hb⟩
      have hN := fn_New16 (T p).k (p : Int) nk true hok hca0 (by omega) hnk
      rw [hnk] at hSp g1 g2 g3 hnc hsr
      obtain ⟨m, hm⟩ : ∃ m, dMap bs (T p).c (Cl.slots g.1) = m := ⟨_, rfl⟩
      rw [hm] at hSp g1 g2 hspo hcb
      have hMp := fn_MapR bs (T p).c (Cl.slots g.1) m hIp.cu hsl hm
      obtain ⟨cells, hce⟩ : ∃ cells, pSpanCells ⟨(p : Int), g.1, m.1⟩ = cells := ⟨_, rfl⟩
      rw [hce] at hSp g1 g2 hcb
      have hCe := fn_Cells16 ⟨(p : Int), g.1, m.1⟩ cells hce
      have hcln : cells.length ≤ 16 := by rw [← hce]; unfold pSpanCells; split <;> first | exact inUse_len _ _ | exact Nat.zero_le _
      obtain ⟨V, hV⟩ : ∃ V, V = cpS bs (p : Int) cells (nk.Machine, m.2) := ⟨_, rfl⟩
      have hV0 : V 0 = (nk.Machine, m.2) := by rw [hV]; rfl
      have hVS : ∀ i, V (i + 1) = (setCellOf (V i).1 (pEntry (V i).1 (adr (p : Int) (cells.getD i 0))).1.Frame (pEntry (V i).1 (adr (p : Int) (cells.getD i 0))).2 (1 + (dBelow bs (V i).2 999).1), (dBelow bs (V i).2 999).2) := fun i => by rw [hV]; rfl
      rw [← hV] at hSp g1 g2
      clear hV
      dsimp only at hSp g1 g2 hnc g3 hsr
      repeat' (refine ar_id ?_; first | refine st1 ?_ | (refine ar_run (id := 7) [.call (c_New16 (T p).k (p : Int) nk true)] ?_; generalize hQ_ : kont _ _ _ _ = Q_; repeat' (first | (focus ((first | refine as_call3 tt_ok ?_ ?_ | refine as_sure3 tt_ok ?_ ?_ | refine as_cons3 tt_ok ?_ ?_); (try dsimp only [c_Cells16, c_MapR, c_New16, c_SlotsS]); (try refine nrm ?_); rotate_left)) | (subst hQ_; refine as_nil ?_))) | (refine ar_run (id := 8) [.call (c_SlotsS g.1), .call (c_MapR bs (T p).c (Cl.slots g.1) m)] ?_; generalize hQ_ : kont _ _ _ _ = Q_; repeat' (first | (focus ((first | refine as_call3 tt_ok ?_ ?_ | refine as_sure3 tt_ok ?_ ?_ | refine as_cons3 tt_ok ?_ ?_); (try dsimp only [c_Cells16, c_MapR, c_New16, c_SlotsS]); (try refine nrm ?_); rotate_left)) | (subst hQ_; refine as_nil ?_))) | (first | ((first | refine ar_region (id := 9) tt_ok (inps := [.call (c_Cells16 ⟨(p : Int), g.1, m.1⟩ cells)]) rfl ?_ ?_ | refine ar_region tt_ok (inps := []) rfl ?_ ?_); rotate_left; (try dsimp only [c_Cells16, c_MapR, c_New16, c_SlotsS]); (try refine nrm ?_); rotate_right) | refine ret3 ?_ | refine end3 ?_) | (refine ar_cond rfl trivial ?_ ?_ <;> intro hc_ <;> (try simp only [isNilI, inB, reduceCtorEq, cds] at hc_) <;> (try (first | contradiction | (exfalso; omega)))) | refine ar_until (And.intro ?_ (wk3 ?_)))
      all_goals (first | refine ar_id ?_ | (try (focus ((try refine nrmO ?_); (repeat' (first | exact True.intro | refine And.intro ?_ ?_)); all_goals (try (intro (hg_ : _ = true); (try simp only [isNilI, inB, reduceCtorEq, cds] at hg_); (repeat' (first | exact True.intro | refine And.intro ?_ ?_)))); all_goals (first | exact ob1 | exact hN | exact fn_SlotsS _ | exact hMp | exact hCe | skip)))))
      refine ar_blocks [0, 2, 4, 9, 16000, 16001, 16002, 16003, 18, 37000] (by dsimp only [selB, hasN] <;> exact rfl) ?_
      refine ar_keep 4061 (by dsimp only [keepS] <;> exact rfl) ?_
      refine ar_forM (cells.length) (fun j => True) (fun j => [(11, (TV.sv (.one (.lit (.int .i64 (j))))))]) (fun j => [(4, some (.box 35 [.hd 16000, .hd 16001, .hd 16002, (CV.lit (.int .i64 ((⟨(V j).1, nk.Calls, nk.Refuse⟩ : GKernel).Calls))), .hd 16003])), (16000, some (.row 33 1 ((⟨(V j).1, nk.Calls, nk.Refuse⟩ : GKernel).Machine.Frames.Cells.map eIntS))), (16001, some (.row 4 1 ((⟨(V j).1, nk.Calls, nk.Refuse⟩ : GKernel).Machine.Frames.Used.map Tr.eB))), (16002, some (.row 47 2 ((⟨(V j).1, nk.Calls, nk.Refuse⟩ : GKernel).Machine.Table.Entries.map eEntry))), (16003, some (.row 3 1 ((⟨(V j).1, nk.Calls, nk.Refuse⟩ : GKernel).Refuse.map Tr.eI))), (0, some ((.box 130 [ro 5 1 eU bs, (CV.lit (.int .i64 ((((V j).2).i : Int)))), (CV.lit (.int .i64 (((V j).2).h)))])))]) ?_ ?_ ?_
      rotate_left
      · first | trivial | simp
      (dsimp only [rnCap, capSVs, Int.toNat_natCast, ro, Nat.reduceAdd, Nat.reduceMul, Nat.zero_add, List.map, putT, app, wrapG, gOb, argT, keys, slotOf, dropped, gAnd, wB, rnT, rnS, rnC, rnCs, rnSs, rnM, rnB, rnN, rn, lk, St.over, ded, delL, keepT, menT, menSs, menS, menCs, menC, hasN, resT, SV.cells]; refine wk3 ?_; (focus ((try refine nrmO ?_); (repeat' (first | exact True.intro | refine And.intro ?_ ?_)); all_goals (try (intro (hg_ : _ = true); (try simp only [isNilI, inB, reduceCtorEq, cds] at hg_); (repeat' (first | exact True.intro | refine And.intro ?_ ?_)))); all_goals (first | exact ob1 | exact rfl | skip))))
      rotate_right
      intro j hj_ hjI_
      dsimp only [rnCap, capSVs, Int.toNat_natCast, ro, Nat.reduceAdd, Nat.reduceMul, Nat.zero_add, List.map, putT, app, wrapG, gOb, argT, keys, slotOf, dropped, gAnd, wB, rnT, rnS, rnC, rnCs, rnSs, rnM, rnB, rnN, rn, lk, St.over, ded, delL, keepT, menT, menSs, menS, menCs, menC, hasN, resT, SV.cells]
      · obtain ⟨g4, g5, g6⟩ := g1 j hj_
        by_cases hjl : j < cells.length
        · have hxi := hcb _ (getD_in (l := cells) (i := j) (d := 0) hjl)
          obtain ⟨v, hv⟩ : ∃ v, dBelow bs (V j).2 999 = v := ⟨_, rfl⟩
          have hvb := dBelow_lt bs (V j).2 999 (by decide)
          have hVj := hVS j
          rw [hv] at hVj hvb
          have hmd : (pEntry (V j).1 (adr (p : Int) (cells.getD j 0))).1.Mode = 2 := by rw [pEntry_adr _ (by omega) hxi, g5]; exact g3
          have hSt := fn_Store7 (V j).1 (adr (p : Int) (cells.getD j 0)) (1 + v.1) (szM7_ok g4) (by unfold adr; omega) ⟨g4, by rw [hmd]; decide⟩ hmd (by omega)
          obtain ⟨m2, hm2⟩ : ∃ m2, setCellOf (V j).1 (pEntry (V j).1 (adr (p : Int) (cells.getD j 0))).1.Frame (pEntry (V j).1 (adr (p : Int) (cells.getD j 0))).2 (1 + v.1) = m2 := ⟨_, rfl⟩
          rw [hm2] at hSt hVj
          have hB := fn_BelowR bs (V j).2 999 v g6 hv
          unfold adr at hSt
          repeat' (refine ar_id ?_; first | refine st1 ?_ | (refine ar_drawS (id := 13) tt_ok (by kernel_rfl) [.elem (eI (cells.getD j 0)), .call (c_BelowR bs (V j).2 999 v), .call (c_Store7 (V j).1 ((p : Int) * 16 + cells.getD j 0) (1 + v.1) m2)] ?_; refine ed_hide ?_; intro K_ hK_; repeat' (first | ((first | refine ed_call3 ?_ | refine ed_sure3 ?_ | refine ed_cons3 ?_); refine ed_hide ?_; intro K_ hK_; (try dsimp only [c_BelowR, c_Store7]); (try refine nrmE ?_)) | (refine ed_nil ?_; (repeat subst hK_); dsimp only; refine Exists.intro _ (And.intro rfl (And.intro (by kernel_rfl) (And.intro ?_ ?_))); rotate_left; (try dsimp only [c_BelowR, c_Store7]); (try refine nrm ?_); rotate_right))) | (first | ((first | refine ar_region tt_ok (inps := []) rfl ?_ ?_); rotate_left; (try dsimp only [c_BelowR, c_Store7]); (try refine nrm ?_); rotate_right) | refine ret3 ?_ | refine end3 ?_) | (refine ar_cond rfl trivial ?_ ?_ <;> intro hc_ <;> (try simp only [isNilI, inB, reduceCtorEq, cds] at hc_) <;> (try (first | contradiction | (exfalso; omega) | (exfalso; omega)))) | refine ar_until (And.intro ?_ (wk3 ?_)))
          all_goals (first | refine ar_id ?_ | (try (focus ((try refine nrmO ?_); (repeat' (first | exact True.intro | refine And.intro ?_ ?_)); all_goals (try (intro (hg_ : _ = true); (try simp only [isNilI, inB, reduceCtorEq, cds] at hg_); (repeat' (first | exact True.intro | refine And.intro ?_ ?_)))); all_goals (first | exact ob1 | exact hB | exact hSt | exact map_at hjl | exact i64_ok (by omega) (by omega) | skip)))))
          all_goals first | (rw [hVj]; done) | trace_state
        · have hje : j = cells.length := by omega
          subst hje
          obtain ⟨o, ho⟩ : ∃ o, dBelow bs (V cells.length).2 4 = o := ⟨_, rfl⟩
          rw [ho] at hSp
          have hO := fn_OnceR bs (V cells.length).2 4 o g6 ho
          by_cases h4 : o.1 = 0
          · rw [if_pos h4] at hSp
            obtain ⟨⟨k3, b3⟩, hk3⟩ : ∃ r, pProtect ⟨(V cells.length).1, nk.Calls, nk.Refuse⟩ (p : Int) 1 = r := ⟨_, rfl⟩
            have hP := fn_Prot16 _ _ _ _ _ (szK8_ok g2) g2.2.1.1 (by show nk.Calls < 100000; omega) hk3
            rw [hk3] at hSp
            repeat' (refine ar_id ?_; first | refine st1 ?_ | (refine ar_run (id := 15) [.call (c_OnceR bs (V cells.length).2 4 o)] ?_; generalize hQ_ : kont _ _ _ _ = Q_; repeat' (first | (focus ((first | refine as_call3 tt_ok ?_ ?_ | refine as_sure3 tt_ok ?_ ?_ | refine as_cons3 tt_ok ?_ ?_); (try dsimp only [c_OnceR, c_Prot16]); (try refine nrm ?_); rotate_left)) | (subst hQ_; refine as_nil ?_))) | (refine ar_run (id := 16) [.call (c_Prot16 ⟨(V cells.length).1, nk.Calls, nk.Refuse⟩ (p : Int) 1 k3 b3)] ?_; generalize hQ_ : kont _ _ _ _ = Q_; repeat' (first | (focus ((first | refine as_call3 tt_ok ?_ ?_ | refine as_sure3 tt_ok ?_ ?_ | refine as_cons3 tt_ok ?_ ?_); (try dsimp only [c_OnceR, c_Prot16]); (try refine nrm ?_); rotate_left)) | (subst hQ_; refine as_nil ?_))) | (first | ((first | refine ar_region tt_ok (inps := []) rfl ?_ ?_); rotate_left; (try dsimp only [c_OnceR, c_Prot16]); (try refine nrm ?_); rotate_right) | refine ret3 ?_ | refine end3 ?_) | (refine ar_cond rfl trivial ?_ ?_ <;> intro hc_ <;> (try simp only [isNilI, inB, reduceCtorEq, cds] at hc_) <;> (try (first | contradiction | (exfalso; omega) | (exfalso; omega)))) | refine ar_until (And.intro ?_ (wk3 ?_)))
            all_goals (first | refine ar_id ?_ | (try (focus ((try refine nrmO ?_); (repeat' (first | exact True.intro | refine And.intro ?_ ?_)); all_goals (try (intro (hg_ : _ = true); (try simp only [isNilI, inB, reduceCtorEq, cds] at hg_); (repeat' (first | exact True.intro | refine And.intro ?_ ?_)))); all_goals (first | exact ob1 | exact hO | exact hP | skip)))))
            all_goals first | (rw [hSp]; done) | (rw [hSp, List.map_append, app_eq]; rfl) | trace_state
          · rw [if_neg h4] at hSp
            repeat' (refine ar_id ?_; first | refine st1 ?_ | (refine ar_run (id := 15) [.call (c_OnceR bs (V cells.length).2 4 o)] ?_; generalize hQ_ : kont _ _ _ _ = Q_; repeat' (first | (focus ((first | refine as_call3 tt_ok ?_ ?_ | refine as_sure3 tt_ok ?_ ?_ | refine as_cons3 tt_ok ?_ ?_); (try dsimp only [c_OnceR]); (try refine nrm ?_); rotate_left)) | (subst hQ_; refine as_nil ?_))) | (first | ((first | refine ar_region tt_ok (inps := []) rfl ?_ ?_); rotate_left; (try dsimp only [c_OnceR]); (try refine nrm ?_); rotate_right) | refine ret3 ?_ | refine end3 ?_) | (refine ar_cond rfl trivial ?_ ?_ <;> intro hc_ <;> (try simp only [isNilI, inB, reduceCtorEq, cds] at hc_) <;> (try (first | contradiction | (exfalso; omega) | (exfalso; omega)))) | refine ar_until (And.intro ?_ (wk3 ?_)))
            all_goals (first | refine ar_id ?_ | (try (focus ((try refine nrmO ?_); (repeat' (first | exact True.intro | refine And.intro ?_ ?_)); all_goals (try (intro (hg_ : _ = true); (try simp only [isNilI, inB, reduceCtorEq, cds] at hg_); (repeat' (first | exact True.intro | refine And.intro ?_ ?_)))); all_goals (first | exact ob1 | exact hO | skip)))))
            all_goals first | (rw [hSp]; done) | (rw [hSp, List.map_append, app_eq]; rfl) | trace_state
      all_goals first | (rw [hV0] <;> rfl) | trace_state
    · rw [if_neg hb] at hSp
      obtain ⟨nk, hnk⟩ : ∃ nk, pNew (T p).k (p : Int) = (nk, false) := ⟨_, Prod.ext rfl (by simpa using hb)⟩
      have hN := fn_New16 (T p).k (p : Int) nk false hok hca0 (by omega) hnk
      rw [hnk] at hSp
      repeat' (refine ar_id ?_; first | refine st1 ?_ | (refine ar_run (id := 7) [.call (c_New16 (T p).k (p : Int) nk false)] ?_; generalize hQ_ : kont _ _ _ _ = Q_; repeat' (first | (focus ((first | refine as_call3 tt_ok ?_ ?_ | refine as_sure3 tt_ok ?_ ?_ | refine as_cons3 tt_ok ?_ ?_); (try dsimp only [c_New16]); (try refine nrm ?_); rotate_left)) | (subst hQ_; refine as_nil ?_))) | (first | ((first | refine ar_region tt_ok (inps := []) rfl ?_ ?_); rotate_left; (try dsimp only [c_New16]); (try refine nrm ?_); rotate_right) | refine ret3 ?_ | refine end3 ?_) | (refine ar_cond rfl trivial ?_ ?_ <;> intro hc_ <;> (try simp only [isNilI, inB, reduceCtorEq, cds] at hc_) <;> (try (first | contradiction | (exfalso; omega)))) | refine ar_until (And.intro ?_ (wk3 ?_)))
      all_goals (first | refine ar_id ?_ | (try (focus ((try refine nrmO ?_); (repeat' (first | exact True.intro | refine And.intro ?_ ?_)); all_goals (try (intro (hg_ : _ = true); (try simp only [isNilI, inB, reduceCtorEq, cds] at hg_); (repeat' (first | exact True.intro | refine And.intro ?_ ?_)))); all_goals (first | exact ob1 | exact hN | skip)))))
      all_goals first | (rw [hSp]; done) | trace_state
  · have hpe : p = 3 := by omega
    subst hpe
    repeat' (refine ar_id ?_; first | refine st1 ?_ | (first | ((first | refine ar_region tt_ok (inps := []) rfl ?_ ?_); rotate_left; (try refine nrm ?_); rotate_right) | refine ret3 ?_ | refine end3 ?_) | (refine ar_cond rfl trivial ?_ ?_ <;> intro hc_ <;> (try simp only [isNilI, inB, reduceCtorEq, cds] at hc_) <;> (try (first | contradiction | (exfalso; omega) | (exfalso; omega)))) | refine ar_until (And.intro ?_ (wk3 ?_)))
    all_goals (first | refine ar_id ?_ | (try (focus ((try refine nrmO ?_); (repeat' (first | exact True.intro | refine And.intro ?_ ?_)); all_goals (try (intro (hg_ : _ = true); (try simp only [isNilI, inB, reduceCtorEq, cds] at hg_); (repeat' (first | exact True.intro | refine And.intro ?_ ?_)))); all_goals (first | exact ob1 | skip)))))
    all_goals trace_state
  all_goals first | (rw [h0] <;> rfl) | trace_state
end Eng
end Go.Proofs.YtgeakpeodhhffaaGreatDoor
namespace Go.Proofs.YtgeakpeodhhffaaGreatDoor
open Go.RowKit
set_option linter.unusedVariables false
set_option linter.unusedSimpArgs false
set_option maxRecDepth 100000
namespace Eng
open Tr
theorem szK_from16 {k : GKernel} (h : szK8 k) : szK k := ⟨⟨h.m.c, h.m.u, h.m.r, h.m.e⟩, h.r⟩
def c_code (t : Tb) (k : GKernel) (s : GSpan) (slot e : Int) : CFD := ⟨38, [.agg [ro 33 1 eIntS k.Machine.Frames.Cells, ro 4 1 Tr.eB k.Machine.Frames.Used, ro 47 2 eEntry k.Machine.Table.Entries, (CV.lit (.int .i64 (k.Calls))), ro 3 1 Tr.eI k.Refuse], .agg [(CV.lit (.int .i64 (s.Page))), (CV.lit (.int .i64 (s.Class))), (CV.lit (.int .i64 (s.Bits)))], (SV.one (.lit (.int .i64 (slot))))], [], (TV.sv (.one (.lit (.int .i64 (e))))), [], [], t.both⟩
set_option maxHeartbeats 2000000 in
theorem fn_code (t : Tb) (k : GKernel) (s : GSpan) (slot e : Int) (hs : szK8 k) (h : frCode k s slot = e) : Fn Tryz.prog (c_code t k s slot e) := by
  have hen := hs.m.e
  obtain ⟨E, hE⟩ : ∃ E, pPageEntry k.Machine.Table s.Page = E := ⟨_, rfl⟩
  have hm : modeOf k s.Page = E.Mode := by unfold modeOf; rw [hE]
  have hP := fn_PageEntryI k.Machine.Table s.Page hen
  unfold c_PageEntryI at hP
  rw [hE] at hP
  rcases fr_cases k s slot with ⟨hc, h1⟩ | ⟨hc, h1, h2⟩ | ⟨hc, h1, h2, h3⟩ | ⟨hc, h1, h2, h3, h4⟩
  · obtain rfl := hc.symm.trans h
    by_cases h5 : pSpanOk s = true
    · have hb := bits_bd h5
      have hG : (!(!pSpanOk s)) = true := by rw [h5]; rfl
      refine fn_intro tt_ok Tryz.func38 rfl Tryz.call38 Tryz.ntmps38 Tryz.results38 rfl rfl rfl rfl ?_
      intro X ρ0 hb_ hgl_
      dsimp only [c_code]
      try refine nrm ?_
      repeat' (refine ar_id ?_; first | refine st1 ?_ | (first | ((first | refine ar_region (id := 1) tt_ok (inps := [.call (⟨83, [.agg [ro 47 2 eEntry k.Machine.Table.Entries], (SV.one (.lit (.int .i64 (s.Page))))], [], .sv (.agg [(CV.lit (.int .i64 (E.Mode))), (CV.lit (.int .i64 (E.Frame)))]), [], [], []⟩)]) rfl ?_ ?_ | refine ar_region (id := 2) tt_ok (inps := [.call (c_SpanOkI t s), .sure (c_HasI t s.Bits slot)]) rfl ?_ ?_ | refine ar_region tt_ok (inps := []) rfl ?_ ?_); rotate_left; (try dsimp only [c_HasI, c_SpanOkI]); (try refine nrm ?_); rotate_right) | refine ret3 ?_ | refine end3 ?_) | (refine ar_cond rfl trivial ?_ ?_ <;> intro hc_ <;> (try simp only [isNilI, inB, reduceCtorEq, cds] at hc_) <;> (try (first | contradiction | (exfalso; omega) | (exfalso; grind)))) | refine ar_until (And.intro ?_ (wk3 ?_)))
      all_goals (first | refine ar_id ?_ | (try (focus ((try refine nrmO ?_); (repeat' (first | exact True.intro | refine And.intro ?_ ?_)); all_goals (try (intro (hg_ : _ = true); (try simp only [isNilI, inB, reduceCtorEq, cds] at hg_); (repeat' (first | exact True.intro | refine And.intro ?_ ?_)))); all_goals (first | exact ob1 | exact hP | exact fn_SpanOkI _ _ | exact fn_HasI _ _ _ (by omega) | exact hG | exact hgl_.1 | exact hgl_.2.1 | exact hgl_.2.2.1 | exact hgl_.2.2.2.1 | exact hgl_.2.2.2.2.1 | exact hgl_.2.2.2.2.2.1 | exact hgl_.2.2.2.2.2.2.1 | exact hgl_.2.2.2.2.2.2.2.1 | exact hgl_ | exact rfl | exact one1 rfl | skip)))))
      all_goals trace_state
    · have h5' : pSpanOk s = false := by simpa using h5
      have hG : (!(!pSpanOk s)) = false := by rw [h5']; rfl
      refine fn_intro tt_ok Tryz.func38 rfl Tryz.call38 Tryz.ntmps38 Tryz.results38 rfl rfl rfl rfl ?_
      intro X ρ0 hb_ hgl_
      dsimp only [c_code]
      try refine nrm ?_
      repeat' (refine ar_id ?_; first | refine st1 ?_ | (first | ((first | refine ar_region (id := 1) tt_ok (inps := [.call (⟨83, [.agg [ro 47 2 eEntry k.Machine.Table.Entries], (SV.one (.lit (.int .i64 (s.Page))))], [], .sv (.agg [(CV.lit (.int .i64 (E.Mode))), (CV.lit (.int .i64 (E.Frame)))]), [], [], []⟩)]) rfl ?_ ?_ | refine ar_region (id := 2) tt_ok (inps := [.call (c_SpanOkI t s), .skip (SV.one (.lit (.bool (false))))]) rfl ?_ ?_ | refine ar_region tt_ok (inps := []) rfl ?_ ?_); rotate_left; (try dsimp only [c_SpanOkI]); (try refine nrm ?_); rotate_right) | refine ret3 ?_ | refine end3 ?_) | (refine ar_cond rfl trivial ?_ ?_ <;> intro hc_ <;> (try simp only [isNilI, inB, reduceCtorEq, cds] at hc_) <;> (try (first | contradiction | (exfalso; omega) | (exfalso; grind)))) | refine ar_until (And.intro ?_ (wk3 ?_)))
      all_goals (first | refine ar_id ?_ | (try (focus ((try refine nrmO ?_); (repeat' (first | exact True.intro | refine And.intro ?_ ?_)); all_goals (try (intro (hg_ : _ = true); (try simp only [isNilI, inB, reduceCtorEq, cds] at hg_); (repeat' (first | exact True.intro | refine And.intro ?_ ?_)))); all_goals (first | exact ob1 | exact hP | exact fn_SpanOkI _ _ | exact hG | exact hG.symm | exact hgl_.1 | exact hgl_.2.1 | exact hgl_.2.2.1 | exact hgl_.2.2.2.1 | exact hgl_.2.2.2.2.1 | exact hgl_.2.2.2.2.2.1 | exact hgl_.2.2.2.2.2.2.1 | exact hgl_.2.2.2.2.2.2.2.1 | exact hgl_ | exact rfl | exact one1 rfl | skip)))))
      all_goals trace_state
  all_goals
    have hb := bits_bd h1.1
    have hG : (!(!pSpanOk s)) = true := by rw [h1.1]; rfl
    obtain rfl := hc.symm.trans h
    refine fn_intro tt_ok Tryz.func38 rfl Tryz.call38 Tryz.ntmps38 Tryz.results38 rfl rfl rfl rfl ?_
    intro X ρ0 hb_ hgl_
    dsimp only [c_code]
    try refine nrm ?_
    repeat' (refine ar_id ?_; first | refine st1 ?_ | (first | ((first | refine ar_region (id := 1) tt_ok (inps := [.call (⟨83, [.agg [ro 47 2 eEntry k.Machine.Table.Entries], (SV.one (.lit (.int .i64 (s.Page))))], [], .sv (.agg [(CV.lit (.int .i64 (E.Mode))), (CV.lit (.int .i64 (E.Frame)))]), [], [], []⟩)]) rfl ?_ ?_ | refine ar_region (id := 2) tt_ok (inps := [.call (c_SpanOkI t s), .sure (c_HasI t s.Bits slot)]) rfl ?_ ?_ | refine ar_region (id := 4) tt_ok (inps := [.call (c_KOkI k), .call (c_isMapped E.Mode E.Frame)]) rfl ?_ ?_ | refine ar_region tt_ok (inps := []) rfl ?_ ?_); rotate_left; (try dsimp only [c_HasI, c_KOkI, c_SpanOkI, c_isMapped]); (try refine nrm ?_); rotate_right) | refine ret3 ?_ | refine end3 ?_) | (refine ar_cond rfl trivial ?_ ?_ <;> intro hc_ <;> (try simp only [isNilI, inB, reduceCtorEq, cds] at hc_) <;> (try (first | contradiction | (exfalso; omega) | (exfalso; first | grind | (unfold pKernelOk at *; simp only [decide_eq_true_eq, decide_eq_false_iff_not] at *; grind))))) | refine ar_until (And.intro ?_ (wk3 ?_)))
    all_goals (first | refine ar_id ?_ | (try (focus ((try refine nrmO ?_); (repeat' (first | exact True.intro | refine And.intro ?_ ?_)); all_goals (try (intro (hg_ : _ = true); (try simp only [isNilI, inB, reduceCtorEq, cds] at hg_); (repeat' (first | exact True.intro | refine And.intro ?_ ?_)))); all_goals (first | exact ob1 | exact hP | exact fn_SpanOkI _ _ | exact fn_HasI _ _ _ (by omega) | exact fn_KOkI _ (szK_from16 hs) | exact fn_isMapped _ _ | exact hG | exact hgl_.1 | exact hgl_.2.1 | exact hgl_.2.2.1 | exact hgl_.2.2.2.1 | exact hgl_.2.2.2.2.1 | exact hgl_.2.2.2.2.2.1 | exact hgl_.2.2.2.2.2.2.1 | exact hgl_.2.2.2.2.2.2.2.1 | exact hgl_ | exact rfl | exact one1 rfl | skip)))))
    all_goals trace_state
/-- a part of the cells of a slot's frame, that are known as0 the slice A n c -/
def c_slotC (t : Tb) (m : GMachine) (f : Nat) (s : GSpan) (slot : Int) (A : Option Addr) (n c : Nat) : CFD := ⟨39, [.agg [.ro 33 1 m.Frames.Cells.length (D.cat ((m.Frames.Cells.map eIntS).set f (.lit (.slice A n c) .nil))), ro 4 1 Tr.eB m.Frames.Used, ro 47 2 eEntry m.Table.Entries], .agg [(CV.lit (.int .i64 (s.Page))), (CV.lit (.int .i64 (s.Class))), (CV.lit (.int .i64 (s.Bits)))], (SV.one (.lit (.int .i64 (slot))))], [], .sv (.one (.lit (.slice (A.map (·.add (frAt s slot * 1))) (Cl.csz s.Class).toNat (c - frAt s slot)))), [], [], t.both⟩
set_option maxHeartbeats 2000000 in
theorem fn_slotC (t : Tb) (m : GMachine) (f : Nat) (s : GSpan) (slot : Int) (A : Option Addr) (n c : Nat) (hs : szM7 m) (hf : (pPageEntry m.Table s.Page).Frame = (f : Int)) (hf1 : f < m.Frames.Cells.length) (hn : 16 ≤ n) (hc : n ≤ c) (h1 : pSpanOk s = true) (h2 : Bm.has s.Bits slot = true) : Fn Tryz.prog (c_slotC t m f s slot A n c) := by
  have hen := hs.e
  obtain ⟨E, hE⟩ : ∃ E, pPageEntry m.Table s.Page = E := ⟨_, rfl⟩
  have hP := fn_PageEntryI m.Table s.Page hen
  unfold c_PageEntryI at hP
  rw [hE] at hP hf
  obtain ⟨b1, b2, ⟨b3, b4⟩, b5, b6⟩ := slot_bds h1 h2
  obtain ⟨_, _, a3, a4⟩ := fr_addr h1 h2
  obtain ⟨a, ha⟩ : ∃ a, frAt s slot = a := ⟨_, rfl⟩
  obtain ⟨z, hz⟩ : ∃ z, (Cl.csz s.Class).toNat = z := ⟨_, rfl⟩
  have hz' : Cl.csz s.Class = (z : Int) := by omega
  have hCz := fn_CszI t s.Class
  unfold c_CszI at hCz
  rw [hz'] at hCz a4 b3 b4
  rw [ha] at a3 a4
  rw [hz] at a3
  have hsl : ((m.Frames.Cells.map eIntS).set f (.lit (.slice A n c) .nil))[f]? = some (.lit (.slice A n c) .nil) := List.getElem?_set_self (by rw [List.length_map]; exact hf1)
  have hel : Elem (D.cat ((m.Frames.Cells.map eIntS).set f (.lit (.slice A n c) .nil))) 1 m.Frames.Cells.length (E.Frame).toNat (.lit (.slice A n c) .nil) := ⟨_, rfl, by simp, fun d hd => by
    rcases List.mem_or_eq_of_mem_set hd with h | rfl
    · obtain ⟨_, _, rfl⟩ := List.mem_map.1 h; rfl
    · rfl, by rw [hf, Int.toNat_natCast]; exact hsl⟩
  have e1 : (slot * (z : Int)).toNat = a := by omega
  have e2 : ((slot + 1) * (z : Int)).toNat - (slot * (z : Int)).toNat = z := by rw [Int.add_mul, Int.one_mul]; omega
  have g1 : (slot + 1) * (z : Int) = slot * (z : Int) + z := by rw [Int.add_mul, Int.one_mul]
  have hsb := slots_bd s.Class
  refine fn_intro tt_ok Tryz.func39 rfl Tryz.call39 Tryz.ntmps39 Tryz.results39 rfl rfl rfl rfl ?_
  intro X ρ0 hb_ hgl_
  dsimp only [c_slotC]
  try refine nrm ?_
  rw [ha, hz]
  repeat' (refine ar_id ?_; first | refine st1 ?_ | (first | ((first | refine ar_region (id := 1) tt_ok (inps := [.call (⟨51, [(SV.one (.lit (.int .i64 (s.Class))))], [], (TV.sv (.one (.lit (.int .i64 ((z : Int)))))), [], [], [t.gS]⟩)]) rfl ?_ ?_ | refine ar_region (id := 2) tt_ok (inps := [.call (⟨83, [.agg [ro 47 2 eEntry m.Table.Entries], (SV.one (.lit (.int .i64 (s.Page))))], [], .sv (.agg [(CV.lit (.int .i64 (E.Mode))), (CV.lit (.int .i64 (E.Frame)))]), [], [], []⟩)]) rfl ?_ ?_ | refine ar_region (id := 3) tt_ok (inps := [.elem (.lit (.slice A n c) .nil), .keep]) rfl ?_ ?_ | refine ar_region tt_ok (inps := []) rfl ?_ ?_); rotate_left; (try refine nrm ?_); rotate_right) | refine ret3 ?_ | refine end3 ?_) | (refine ar_cond rfl trivial ?_ ?_ <;> intro hc_ <;> (try simp only [isNilI, inB, reduceCtorEq, cds] at hc_) <;> (try (first | contradiction | (exfalso; omega) | (exfalso; omega)))) | refine ar_until (And.intro ?_ (wk3 ?_)))
  all_goals (first | refine ar_id ?_ | (try (focus ((try refine nrmO ?_); (repeat' (first | exact True.intro | refine And.intro ?_ ?_)); all_goals (try (intro (hg_ : _ = true); (try simp only [isNilI, inB, reduceCtorEq, cds] at hg_); (repeat' (first | exact True.intro | refine And.intro ?_ ?_)))); all_goals (first | exact ob1 | exact hCz | exact hP | exact hel | exact i64_ok (by omega) (by omega) | exact hgl_.1 | exact hgl_.2.1 | exact hgl_.2.2.1 | exact hgl_.2.2.2.1 | exact hgl_.2.2.2.2.1 | exact hgl_.2.2.2.2.2.1 | exact hgl_.2.2.2.2.2.2.1 | exact hgl_.2.2.2.2.2.2.2.1 | exact hgl_ | exact rfl | exact one1 rfl | skip)))))
  rw [e2, e1]
  rfl
def c_FrI (t : Tb) (k : GKernel) (s : GSpan) (slot : Int) (k2 : GKernel) (s2 : GSpan) (e : Int) : CFD := ⟨8, [.agg [ro 33 1 eIntS k.Machine.Frames.Cells, ro 4 1 Tr.eB k.Machine.Frames.Used, ro 47 2 eEntry k.Machine.Table.Entries, (CV.lit (.int .i64 (k.Calls))), ro 3 1 Tr.eI k.Refuse], .agg [(CV.lit (.int .i64 (s.Page))), (CV.lit (.int .i64 (s.Class))), (CV.lit (.int .i64 (s.Bits)))], (SV.one (.lit (.int .i64 (slot))))], [], .tup [.agg [.hd 0, .hd 1, .hd 2, (CV.lit (.int .i64 (k2.Calls))), .hd 3], .agg [(CV.lit (.int .i64 (s2.Page))), (CV.lit (.int .i64 (s2.Class))), (CV.lit (.int .i64 (s2.Bits)))], (SV.one (.lit (.int .i64 (e))))], [(0, some (.row 33 1 (k2.Machine.Frames.Cells.map eIntS))), (1, some (.row 4 1 (k2.Machine.Frames.Used.map Tr.eB))), (2, some (.row 47 2 (k2.Machine.Table.Entries.map eEntry))), (3, some (.row 3 1 (k2.Refuse.map Tr.eI)))], [0, 1, 2, 3], t.both⟩
set_option maxHeartbeats 2000000 in
theorem fn_FrI (t : Tb) (k : GKernel) (s : GSpan) (slot : Int) (k2 : GKernel) (s2 : GSpan) (e : Int) (hs : szK8 k) (h : pFreeSlot k s slot = (k2, s2, e)) : Fn Tryz.prog (c_FrI t k s slot k2 s2 e) := by
  unfold pFreeSlot at h
  by_cases hc : frCode k s slot = 0
  · rw [if_pos hc] at h
    obtain ⟨e1, e2⟩ := Prod.mk.inj h
    obtain ⟨e3, e4⟩ := Prod.mk.inj e2
    subst e1 e3 e4
    obtain ⟨h1, h2, h3, h4⟩ : (pSpanOk s = true ∧ Bm.has s.Bits slot = true) ∧ okK k ∧ modeOf k s.Page ≠ 0 ∧ modeOf k s.Page ≠ 1 := by
      rcases fr_cases k s slot with ⟨h, _⟩ | ⟨h, _⟩ | ⟨h, _⟩ | ⟨_, h⟩
      · rw [h] at hc; cases hc
      · rw [h] at hc; cases hc
      · rw [h] at hc; cases hc
      · exact h
    obtain ⟨f, hf, hf1, _, hf2, hf3⟩ := okM_entry h2.1 (show (pPageEntry k.Machine.Table s.Page).Mode ≠ 0 from h3)
    have hfr : frFrame k s = f := by unfold frFrame; rw [hf]; rfl
    obtain ⟨_, _, a3, a4⟩ := fr_addr h1.1 h1.2
    have hcs := (slot_bds h1.1 h1.2).2.2.2
    have hb := bits_bd h1.1
    unfold frK wiped
    rw [hfr]
    have hcode := fn_code t k s slot 0 hs hc
    have hgive := fn_sGive t s slot hb.1 hb.2
    obtain ⟨R, hR⟩ : ∃ R, k.Machine.Frames.Cells.getD f [] = R := ⟨_, rfl⟩
    rw [hR] at hf2
    have hrow : (k.Machine.Frames.Cells.map eIntS)[f]? = some (eIntS R) := by rw [← hR]; exact map_at hf1
    have hw := wipe_eq R (frAt s slot) (Cl.csz s.Class).toNat (by omega)
    have hcl := hs.m.c
    refine fn_intro tt_ok Tryz.func8 rfl Tryz.call8 Tryz.ntmps8 Tryz.results8 rfl rfl rfl rfl ?_
    intro X ρ0 hb_ hgl_
    dsimp only [c_FrI]
    try refine nrm ?_
    rw [hR]
    repeat' (refine ar_id ?_; first | refine st1 ?_ | (first | ((first | refine ar_region (id := 1) tt_ok (inps := [.call (c_CopyKI k)]) rfl ?_ ?_ | refine ar_region (id := 2) tt_ok (inps := [.call (c_code t k s slot 0)]) rfl ?_ ?_ | refine ar_region tt_ok (inps := []) rfl ?_ ?_); rotate_left; (try dsimp only [c_CopyKI, c_code]); (try refine nrm ?_); rotate_right) | refine ret3 ?_ | refine end3 ?_) | (refine ar_cond rfl trivial ?_ ?_ <;> intro hc_ <;> (try simp only [isNilI, inB, reduceCtorEq, cds] at hc_) <;> (try (first | contradiction | (exfalso; omega) | (exfalso; grind)))) | refine ar_until (And.intro ?_ (wk3 ?_)))
    all_goals (first | refine ar_id ?_ | (try (focus ((try refine nrmO ?_); (repeat' (first | exact True.intro | refine And.intro ?_ ?_)); all_goals (try (intro (hg_ : _ = true); (try simp only [isNilI, inB, reduceCtorEq, cds] at hg_); (repeat' (first | exact True.intro | refine And.intro ?_ ?_)))); all_goals (first | exact ob1 | exact fn_CopyKI _ (szK_from16 hs) | exact hcode | exact hgl_.1 | exact hgl_.2.1 | exact hgl_.2.2.1 | exact hgl_.2.2.2.1 | exact hgl_.2.2.2.2.1 | exact hgl_.2.2.2.2.2.1 | exact hgl_.2.2.2.2.2.2.1 | exact hgl_.2.2.2.2.2.2.2.1 | exact hgl_ | exact rfl | exact one1 rfl | skip)))))
    refine ar_open2 13000 f 0 90001 90002 (d := eIntS R) (R.map eI) rfl ?_ rfl ?_ rfl rfl rfl ?_
    · first | exact map_at (by omega) | assumption | exact set_at (by (try simp only [List.length_map, List.length_set]); omega) | (rw [List.getElem?_set_ne (by omega)]; exact map_at (by omega))
    · exact ⟨rfl, rfl, by intro e he; simp only [List.mem_map] at he; obtain ⟨_, _, rfl⟩ := he; rfl⟩
    intro A_90001 n_90001 c_90001 hn_90001 hc_90001
    try refine nrm ?_
    rw [List.length_map] at hn_90001
    have hsc := fn_slotC t k.Machine f s slot A_90001 n_90001 c_90001 hs.m hf hf1 (by omega) hc_90001 h1.1 h1.2
    refine ar_region (id := 5) tt_ok (inps := [.call (c_slotC t k.Machine f s slot A_90001 n_90001 c_90001), .nest .nil [(frAt s slot, 90002)]]) rfl ?_ ?_
    rotate_left
    (try dsimp only [c_slotC]); (try refine nrm ?_)
    refine ar_close 13000 f 0 90001 90002 rfl rfl rfl (set_at ?_) rfl rfl rfl ?_
    · (simp only [List.length_map, List.length_set]; omega)
    try refine nrm ?_
    repeat' (refine ar_id ?_; first | refine st1 ?_ | (first | ((first | refine ar_draw (id := 6) (inps := [.call (c_sGive t s slot)]) tt_ok (by kernel_rfl) rfl rfl (by kernel_rfl) rfl rfl rfl rfl ?_ ?_ | refine ar_region tt_ok (inps := []) rfl ?_ ?_); rotate_left; (try dsimp only [c_sGive]); (try refine nrm ?_); rotate_right) | refine ret3 ?_ | refine end3 ?_) | (refine ar_cond rfl trivial ?_ ?_ <;> intro hc_ <;> (try simp only [isNilI, inB, reduceCtorEq, cds] at hc_) <;> (try (first | contradiction | (exfalso; omega)))) | refine ar_until (And.intro ?_ (wk3 ?_)))
    all_goals (first | refine ar_id ?_ | (try (focus ((try refine nrmO ?_); (repeat' (first | exact True.intro | refine And.intro ?_ ?_)); all_goals (try (intro (hg_ : _ = true); (try simp only [isNilI, inB, reduceCtorEq, cds] at hg_); (repeat' (first | exact True.intro | refine And.intro ?_ ?_)))); all_goals (first | exact ob1 | exact hgive | exact hgl_.1 | exact hgl_.2.1 | exact hgl_.2.2.1 | exact hgl_.2.2.2.1 | exact hgl_.2.2.2.2.1 | exact hgl_.2.2.2.2.2.1 | exact hgl_.2.2.2.2.2.2.1 | exact hgl_.2.2.2.2.2.2.2.1 | exact hgl_ | exact rfl | exact one1 rfl | skip)))))
    all_goals (try (focus ((try refine nrmO ?_); (repeat' (first | exact True.intro | refine And.intro ?_ ?_)); all_goals (try (intro (hg_ : _ = true); (try simp only [isNilI, inB, reduceCtorEq, cds] at hg_); (repeat' (first | exact True.intro | refine And.intro ?_ ?_)))); all_goals (first | exact ob1 | exact hsc | exact hgl_.1 | exact hgl_.2.1 | exact hgl_.2.2.1 | exact hgl_.2.2.2.1 | exact hgl_.2.2.2.2.1 | exact hgl_.2.2.2.2.2.1 | exact hgl_.2.2.2.2.2.2.1 | exact hgl_.2.2.2.2.2.2.2.1 | exact hgl_ | exact rfl | exact one1 rfl | skip))))
    · have hwm : (R.map eI).take (frAt s slot) ++ (List.replicate (Cl.csz s.Class).toNat (D.lit ti3.z .nil) ++ (R.map eI).drop (frAt s slot + (Cl.csz s.Class).toNat)) = (wipe R (frAt s slot) (Cl.csz s.Class).toNat).map eI := by
        rw [← hw, List.map_append, List.map_append, List.map_take, List.map_drop, List.map_replicate]; rfl
      rw [hwm, List.set_set]
      show (List.map eIntS k.Machine.Frames.Cells).set f (eIntS (wipe R (frAt s slot) (Cl.csz s.Class).toNat)) = _
      exact List.map_set.symm
    · rw [List.length_set, List.length_map]
    · intro d hd
      obtain ⟨_, _, rfl⟩ := List.mem_map.1 hd
      exact ⟨rfl, trivial⟩
  · rw [if_neg hc] at h
    obtain ⟨e1, e2⟩ := Prod.mk.inj h
    obtain ⟨e3, e4⟩ := Prod.mk.inj e2
    subst e1 e3
    have hcode := fn_code t k s slot e hs e4
    rw [e4] at hc
    refine fn_intro tt_ok Tryz.func8 rfl Tryz.call8 Tryz.ntmps8 Tryz.results8 rfl rfl rfl rfl ?_
    intro X ρ0 hb_ hgl_
    dsimp only [c_FrI]
    try refine nrm ?_
    repeat' (refine ar_id ?_; first | refine st1 ?_ | (refine ar_drawS (id := 4) tt_ok (by kernel_rfl) [] ?_; refine ed_hide ?_; intro K_ hK_; repeat' (first | ((first | refine ed_call3 ?_ | refine ed_sure3 ?_ | refine ed_cons3 ?_); refine ed_hide ?_; intro K_ hK_; (try dsimp only [c_CopyKI, c_code]); (try refine nrmE ?_)) | (refine ed_nil ?_; (repeat subst hK_); dsimp only; refine Exists.intro _ (And.intro rfl (And.intro (by kernel_rfl) (And.intro ?_ ?_))); rotate_left; (try dsimp only [c_CopyKI, c_code]); (try refine nrm ?_); rotate_right))) | (first | ((first | refine ar_region (id := 1) tt_ok (inps := [.call (c_CopyKI k)]) rfl ?_ ?_ | refine ar_region (id := 2) tt_ok (inps := [.call (c_code t k s slot e)]) rfl ?_ ?_ | refine ar_region tt_ok (inps := []) rfl ?_ ?_); rotate_left; (try dsimp only [c_CopyKI, c_code]); (try refine nrm ?_); rotate_right) | refine ret3 ?_ | refine end3 ?_) | (refine ar_cond rfl trivial ?_ ?_ <;> intro hc_ <;> (try simp only [isNilI, inB, reduceCtorEq, cds] at hc_) <;> (try (first | contradiction | (exfalso; omega) | (exfalso; grind)))) | refine ar_until (And.intro ?_ (wk3 ?_)))
    all_goals (first | refine ar_id ?_ | (try (focus ((try refine nrmO ?_); (repeat' (first | exact True.intro | refine And.intro ?_ ?_)); all_goals (try (intro (hg_ : _ = true); (try simp only [isNilI, inB, reduceCtorEq, cds] at hg_); (repeat' (first | exact True.intro | refine And.intro ?_ ?_)))); all_goals (first | exact ob1 | exact fn_CopyKI _ (szK_from16 hs) | exact hcode | exact hgl_.1 | exact hgl_.2.1 | exact hgl_.2.2.1 | exact hgl_.2.2.2.1 | exact hgl_.2.2.2.2.1 | exact hgl_.2.2.2.2.2.1 | exact hgl_.2.2.2.2.2.2.1 | exact hgl_.2.2.2.2.2.2.2.1 | exact hgl_ | exact rfl | exact one1 rfl | skip)))))
    all_goals trace_state
end Eng
end Go.Proofs.YtgeakpeodhhffaaGreatDoor
namespace Go.Proofs.YtgeakpeodhhffaaGreatDoor
open Go.RowKit
set_option linter.unusedVariables false
namespace Tr
def clearTo (m : GMachine) (a : Int) (n : Nat) : Prop := ∀ j, j < n → pLoad m (a + ((j : Nat) : Int)) = (0, 0)
def pSlotClear (k : GKernel) (s : GSpan) (slot : Int) : Prop := 0 ≤ pSpanAddr s slot ∧ clearTo k.Machine (pSpanAddr s slot) (Cl.csz s.Class).toNat
theorem clear_succ {m : GMachine} {a : Int} {n : Nat} (h : clearTo m a n) (h2 : pLoad m (a + (n : Int)) = (0, 0)) : clearTo m a (n + 1) := fun j hj => by
  rcases Nat.lt_or_eq_of_le (Nat.lt_succ_iff.1 hj) with h3 | rfl
  · exact h j h3
  · exact h2
theorem addr_bd (s : GSpan) (slot : Int) : -1 ≤ pSpanAddr s slot ∧ pSpanAddr s slot ≤ 1000 := by
  unfold pSpanAddr
  split
  · rename_i h
    have h1 := (span_parts h.1).1
    have h2 := slots_bd s.Class
    have h3 := csz_bd s.Class
    have h4 : slot * Cl.csz s.Class ≤ 16 * 8 := Int.mul_le_mul (by omega) (by omega) (by omega) (by omega)
    have h5 : 0 ≤ slot * Cl.csz s.Class := Int.mul_nonneg (by omega) (by omega)
    omega
  · omega
instance (m : GMachine) (a : Int) (n : Nat) : Decidable (clearTo m a n) := by unfold clearTo; infer_instance
instance (k : GKernel) (s : GSpan) (slot : Int) : Decidable (pSlotClear k s slot) := by unfold pSlotClear; infer_instance
end Tr
end Go.Proofs.YtgeakpeodhhffaaGreatDoor
namespace Go.Proofs.YtgeakpeodhhffaaGreatDoor
open Go.RowKit
set_option linter.unusedVariables false
set_option linter.unusedSimpArgs false
set_option maxRecDepth 100000
namespace Eng
open Tr
def c_LdI (S : Se) (m : GMachine) (addr v x : Int) : CFD := ⟨14, [.agg [ro 33 1 eIntS m.Frames.Cells, ro 4 1 Tr.eB m.Frames.Used, ro 47 2 eEntry m.Table.Entries], (SV.one (.lit (.int .i64 (addr))))], [], .tup [(SV.one (.lit (.int .i64 (v)))), (SV.one (.lit (.int .i64 (x))))], [], [], S.gl⟩
theorem fn_LdI (S : Se) (m : GMachine) (addr v x : Int) (hs : szM7 m) (ha : okI addr) (h : pLoad m addr = (v, x)) : Fn Tryz.prog (c_LdI S m addr v x) := by
  have := fn_LoadI S m addr ⟨hs.c, hs.u, hs.r, hs.e⟩ ha
  unfold c_LoadI at this
  rw [h] at this
  exact this
def c_ClrI (t : Tb) (S : Se) (k : GKernel) (s : GSpan) (slot : Int) (b : Bool) : CFD := ⟨15, [.agg [ro 33 1 eIntS k.Machine.Frames.Cells, ro 4 1 Tr.eB k.Machine.Frames.Used, ro 47 2 eEntry k.Machine.Table.Entries, (CV.lit (.int .i64 (k.Calls))), ro 3 1 Tr.eI k.Refuse], .agg [(CV.lit (.int .i64 (s.Page))), (CV.lit (.int .i64 (s.Class))), (CV.lit (.int .i64 (s.Bits)))], (SV.one (.lit (.int .i64 (slot))))], [], (TV.sv (.one (.lit (.bool (b))))), [], [], t.gS :: S.gl⟩
set_option maxHeartbeats 2000000 in
theorem fn_ClrI (t : Tb) (S : Se) (k : GKernel) (s : GSpan) (slot : Int) (b : Bool) (hs : szK8 k) (h : b = true ↔ pSlotClear k s slot) : Fn Tryz.prog (c_ClrI t S k s slot b) := by
  obtain ⟨a, ha⟩ : ∃ a, pSpanAddr s slot = a := ⟨_, rfl⟩
  have hab := addr_bd s slot
  have hA := fn_SpanAddrI t s slot
  unfold c_SpanAddrI at hA
  have hcb := csz_bd s.Class
  obtain ⟨n, hn⟩ : ∃ n, (Cl.csz s.Class).toNat = n := ⟨_, rfl⟩
  have hn' : Cl.csz s.Class = (n : Int) := by omega
  have hCz := fn_CszI t s.Class
  unfold c_CszI at hCz
  unfold pSlotClear at h
  rw [hn'] at hCz
  rw [ha] at hA hab h
  rw [hn] at h
  obtain rfl : decide (0 ≤ a ∧ clearTo k.Machine a n) = b := by rw [Bool.eq_iff_iff, decide_eq_true_iff]; exact h.symm
  have h0c : clearTo k.Machine a 0 := fun j hj => absurd hj (Nat.not_lt_zero j)
  by_cases h0 : a < 0
  · have hV : decide (0 ≤ a ∧ clearTo k.Machine a n) = false := decide_eq_false (fun h => by omega)
    refine fn_intro tt_ok Tryz.func15 rfl Tryz.call15 Tryz.ntmps15 Tryz.results15 rfl rfl rfl rfl ?_
    intro X ρ0 hb_ hgl_
    dsimp only [c_ClrI]
    try refine nrm ?_
    rw [hV]
    repeat' (refine ar_id ?_; first | refine st1 ?_ | (first | ((first | refine ar_region (id := 1) tt_ok (inps := [.call (⟨50, [.agg [(CV.lit (.int .i64 (s.Page))), (CV.lit (.int .i64 (s.Class))), (CV.lit (.int .i64 (s.Bits)))], (SV.one (.lit (.int .i64 (slot))))], [], (TV.sv (.one (.lit (.int .i64 (a))))), [], [], [t.gS]⟩)]) rfl ?_ ?_ | refine ar_region tt_ok (inps := []) rfl ?_ ?_); rotate_left; (try refine nrm ?_); rotate_right) | refine ret3 ?_ | refine end3 ?_) | (refine ar_cond rfl trivial ?_ ?_ <;> intro hc_ <;> (try simp only [isNilI, inB, reduceCtorEq, cds] at hc_) <;> (try (first | contradiction | (exfalso; omega) | (exfalso; omega)))) | refine ar_until (And.intro ?_ (wk3 ?_)))
    all_goals (first | refine ar_id ?_ | (try (focus ((try refine nrmO ?_); (repeat' (first | exact True.intro | refine And.intro ?_ ?_)); all_goals (try (intro (hg_ : _ = true); (try simp only [isNilI, inB, reduceCtorEq, cds] at hg_); (repeat' (first | exact True.intro | refine And.intro ?_ ?_)))); all_goals (first | exact ob1 | exact hA | exact hgl_.1 | exact hgl_.1 | exact hgl_.2.1 | exact hgl_.2.2.1 | exact hgl_.2.2.2.1 | exact hgl_.2.2.2.2.1 | exact hgl_.2.2.2.2.2.1 | exact hgl_.2.2.2.2.2.2.1 | exact hgl_.2.2.2.2.2.2.2.1 | exact hgl_ | exact rfl | exact one1 rfl | skip)))))
    all_goals trace_state
  · skip
    refine fn_intro tt_ok Tryz.func15 rfl Tryz.call15 Tryz.ntmps15 Tryz.results15 rfl rfl rfl rfl ?_
    intro X ρ0 hb_ hgl_
    dsimp only [c_ClrI]
    try refine nrm ?_
    repeat' (refine ar_id ?_; first | refine st1 ?_ | (first | ((first | refine ar_region (id := 1) tt_ok (inps := [.call (⟨50, [.agg [(CV.lit (.int .i64 (s.Page))), (CV.lit (.int .i64 (s.Class))), (CV.lit (.int .i64 (s.Bits)))], (SV.one (.lit (.int .i64 (slot))))], [], (TV.sv (.one (.lit (.int .i64 (a))))), [], [], [t.gS]⟩)]) rfl ?_ ?_ | refine ar_region (id := 4) tt_ok (inps := [.call (⟨51, [(SV.one (.lit (.int .i64 (s.Class))))], [], (TV.sv (.one (.lit (.int .i64 ((n : Int)))))), [], [], [t.gS]⟩)]) rfl ?_ ?_ | refine ar_region tt_ok (inps := []) rfl ?_ ?_); rotate_left; (try refine nrm ?_); rotate_right) | refine ret3 ?_ | refine end3 ?_) | (refine ar_cond rfl trivial ?_ ?_ <;> intro hc_ <;> (try simp only [isNilI, inB, reduceCtorEq, cds] at hc_) <;> (try (first | contradiction | (exfalso; omega) | (exfalso; omega)))) | refine ar_until (And.intro ?_ (wk3 ?_)))
    all_goals (first | refine ar_id ?_ | (try (focus ((try refine nrmO ?_); (repeat' (first | exact True.intro | refine And.intro ?_ ?_)); all_goals (try (intro (hg_ : _ = true); (try simp only [isNilI, inB, reduceCtorEq, cds] at hg_); (repeat' (first | exact True.intro | refine And.intro ?_ ?_)))); all_goals (first | exact ob1 | exact hA | exact hCz | exact hgl_.1 | exact hgl_.1 | exact hgl_.2.1 | exact hgl_.2.2.1 | exact hgl_.2.2.2.1 | exact hgl_.2.2.2.2.1 | exact hgl_.2.2.2.2.2.1 | exact hgl_.2.2.2.2.2.2.1 | exact hgl_.2.2.2.2.2.2.2.1 | exact hgl_ | exact rfl | exact one1 rfl | skip)))))
    refine ar_keep 788447 (by dsimp only [keepS] <;> exact rfl) ?_
    refine ar_forM (n) (fun i => clearTo k.Machine a i) (fun i => [(19, (TV.sv (.one (.lit (.int .i64 (i))))))]) (fun i => []) ?_ ?_ ?_
    rotate_left
    · first | trivial | simp
    (dsimp only [rnCap, capSVs, Int.toNat_natCast, ro, Nat.reduceAdd, Nat.reduceMul, Nat.zero_add, List.map, putT, app, wrapG, gOb, argT, keys, slotOf, dropped, gAnd, wB, rnT, rnS, rnC, rnCs, rnSs, rnM, rnB, rnN, rn, lk, St.over, ded, delL, keepT, menT, menSs, menS, menCs, menC, hasN, resT, SV.cells]; refine wk3 ?_; (focus ((try refine nrmO ?_); (repeat' (first | exact True.intro | refine And.intro ?_ ?_)); all_goals (try (intro (hg_ : _ = true); (try simp only [isNilI, inB, reduceCtorEq, cds] at hg_); (repeat' (first | exact True.intro | refine And.intro ?_ ?_)))); all_goals (first | exact ob1 | exact rfl | skip))))
    rotate_right
    intro i hi_ hiI_
    dsimp only [rnCap, capSVs, Int.toNat_natCast, ro, Nat.reduceAdd, Nat.reduceMul, Nat.zero_add, List.map, putT, app, wrapG, gOb, argT, keys, slotOf, dropped, gAnd, wB, rnT, rnS, rnC, rnCs, rnSs, rnM, rnB, rnN, rn, lk, St.over, ded, delL, keepT, menT, menSs, menS, menCs, menC, hasN, resT, SV.cells]
    obtain ⟨⟨v, x⟩, hl⟩ : ∃ r, pLoad k.Machine (a + ((i : Nat) : Int)) = r := ⟨_, rfl⟩
    have hL := fn_LdI S k.Machine (a + (i : Int)) v x hs.m ⟨by omega, by omega⟩ hl
    repeat' (refine ar_id ?_; first | refine st1 ?_ | (first | ((first | refine ar_region (id := 7) tt_ok (inps := [.call (c_LdI S k.Machine (a + (i : Int)) v x)]) rfl ?_ ?_ | refine ar_region tt_ok (inps := []) rfl ?_ ?_); rotate_left; (try dsimp only [c_LdI]); (try refine nrm ?_); rotate_right) | refine ret3 ?_ | refine end3 ?_) | (refine ar_cond rfl trivial ?_ ?_ <;> intro hc_ <;> (try simp only [isNilI, inB, reduceCtorEq, cds] at hc_) <;> (try (first | contradiction | (exfalso; omega)))) | refine ar_until (And.intro ?_ (wk3 ?_)))
    all_goals (first | refine ar_id ?_ | (try (focus ((try refine nrmO ?_); (repeat' (first | exact True.intro | refine And.intro ?_ ?_)); all_goals (try (intro (hg_ : _ = true); (try simp only [isNilI, inB, reduceCtorEq, cds] at hg_); (repeat' (first | exact True.intro | refine And.intro ?_ ?_)))); all_goals (first | exact ob1 | exact hL | exact i64_ok (by omega) (by omega) | exact hgl_.2 | exact hgl_.1 | exact hgl_.2.1 | exact hgl_.2.2.1 | exact hgl_.2.2.2.1 | exact hgl_.2.2.2.2.1 | exact hgl_.2.2.2.2.2.1 | exact hgl_.2.2.2.2.2.2.1 | exact hgl_.2.2.2.2.2.2.2.1 | exact hgl_ | exact rfl | exact one1 rfl | skip)))))
    · refine bf fun h => ?_
      have h2 := h.2 i (by omega)
      rw [hl] at h2
      obtain ⟨e1, e2⟩ := Prod.mk.inj h2
      rcases hc_ with hc_ | hc_
      · exact hc_ e2
      · exact hc_ e1
    · exact clear_succ hiI_ (by rw [hl, hc_.1, hc_.2])
    · exact bt ⟨by omega, by rw [show n = i by omega]; exact hiI_⟩
    all_goals first | (intro j hj; omega) | trace_state
end Eng
end Go.Proofs.YtgeakpeodhhffaaGreatDoor
namespace Go.Proofs.YtgeakpeodhhffaaGreatDoor
open Go.RowKit
set_option linter.unusedVariables false
set_option linter.unusedSimpArgs false
set_option maxRecDepth 100000
namespace Eng
open Tr
def c_LdR (m : GMachine) (addr v x : Int) : CFD := ⟨13, [.agg [ro 33 1 eIntS m.Frames.Cells, ro 4 1 Tr.eB m.Frames.Used, ro 47 2 eEntry m.Table.Entries], (SV.one (.lit (.int .i64 (addr))))], [], .tup [(SV.one (.lit (.int .i64 (v)))), (SV.one (.lit (.int .i64 (x))))], [], [], []⟩
theorem fn_LdR (m : GMachine) (addr v x : Int) (hs : szM7 m) (ha : addr ≤ 9223372036854775807) (h : pLoad m addr = (v, x)) : Fn Tryz.prog (c_LdR m addr v x) := by
  have := fn_Load7 m addr hs ha
  unfold c_Load7 at this
  rw [h] at this
  exact this
end Eng
end Go.Proofs.YtgeakpeodhhffaaGreatDoor
namespace Go.Proofs.YtgeakpeodhhffaaGreatDoor
open Go.RowKit
set_option linter.unusedVariables false
set_option linter.unusedSimpArgs false
set_option maxRecDepth 100000
namespace Eng
open Tr
instance decE : DecidableEq GEntry := fun a b => decidable_of_iff (a.Mode = b.Mode ∧ a.Frame = b.Frame) (by cases a; cases b; simp)
theorem take_eqs {α : Type} (d : α) {a b : List α} {i : Nat} (h : a.take i = b.take i) (ha : i < a.length) (hb : i < b.length) (he : a.getD i d = b.getD i d) : a.take (i + 1) = b.take (i + 1) := by
  rw [take_getD a d ha, take_getD b d hb, h, he]
theorem take_ne {α : Type} (d : α) {a b : List α} {i : Nat} (ha : i < a.length) (hb : i < b.length) (he : ¬ a.getD i d = b.getD i d) : ¬ a = b := fun h => he (by rw [h])
theorem take_all {α : Type} {a b : List α} {i : Nat} (h : a.take i = b.take i) (ha : ¬ i < a.length) (hl : a.length = b.length) : a = b := by
  rw [List.take_of_length_le (by omega), List.take_of_length_le (by omega)] at h
  exact h
def c_sameI (a b : List Int) : CFD := ⟨122, [.one (ro 3 1 Tr.eI a), .one (ro 3 1 Tr.eI b)], [], (TV.sv (.one (.lit (.bool (decide (a = b)))))), [], [], []⟩
theorem fn_sameI (a b : List Int) (ha : a.length ≤ 1048576) : Fn Tryz.prog (c_sameI a b) := by
  refine fn_intro tt_ok Tryz.func122 rfl Tryz.call122 Tryz.ntmps122 Tryz.results122 rfl rfl rfl rfl ?_
  intro X ρ0 hb_ hgl_
  dsimp only [c_sameI]
  try refine nrm ?_
  repeat' (refine ar_id ?_; first | refine st1 ?_ | (first | ((first | refine ar_region tt_ok (inps := []) rfl ?_ ?_); rotate_left; (try refine nrm ?_); rotate_right) | refine ret3 ?_ | refine end3 ?_) | (refine ar_cond rfl trivial ?_ ?_ <;> intro hc_ <;> (try simp only [isNilI, inB, reduceCtorEq, cds] at hc_) <;> (try (first | contradiction | (exfalso; omega)))) | refine ar_until (And.intro ?_ (wk3 ?_)))
  all_goals (first | refine ar_id ?_ | (try (focus ((try refine nrmO ?_); (repeat' (first | exact True.intro | refine And.intro ?_ ?_)); all_goals (try (intro (hg_ : _ = true); (try simp only [isNilI, inB, reduceCtorEq, cds] at hg_); (repeat' (first | exact True.intro | refine And.intro ?_ ?_)))); all_goals (first | exact ob1 | skip)))))
  · exact bf fun h => by rw [h] at hc_; simp at hc_
  have hl : a.length = b.length := by omega
  refine ar_keep 51 (by dsimp only [keepS] <;> exact rfl) ?_
  refine ar_forM (a.length) (fun i => a.take i = b.take i) (fun i => [(5, (TV.sv (.one (.lit (.int .i64 (i))))))]) (fun i => []) ?_ ?_ ?_
  rotate_left
  · first | trivial | simp
  (dsimp only [rnCap, capSVs, Int.toNat_natCast, ro, Nat.reduceAdd, Nat.reduceMul, Nat.zero_add, List.map, putT, app, wrapG, gOb, argT, keys, slotOf, dropped, gAnd, wB, rnT, rnS, rnC, rnCs, rnSs, rnM, rnB, rnN, rn, lk, St.over, ded, delL, keepT, menT, menSs, menS, menCs, menC, hasN, resT, SV.cells]; refine wk3 ?_; (focus ((try refine nrmO ?_); (repeat' (first | exact True.intro | refine And.intro ?_ ?_)); all_goals (try (intro (hg_ : _ = true); (try simp only [isNilI, inB, reduceCtorEq, cds] at hg_); (repeat' (first | exact True.intro | refine And.intro ?_ ?_)))); all_goals (first | exact ob1 | exact rfl | skip))))
  rotate_right
  intro i hi_ hiI_
  dsimp only [rnCap, capSVs, Int.toNat_natCast, ro, Nat.reduceAdd, Nat.reduceMul, Nat.zero_add, List.map, putT, app, wrapG, gOb, argT, keys, slotOf, dropped, gAnd, wB, rnT, rnS, rnC, rnCs, rnSs, rnM, rnB, rnN, rn, lk, St.over, ded, delL, keepT, menT, menSs, menS, menCs, menC, hasN, resT, SV.cells]
  repeat' (refine ar_id ?_; first | refine st1 ?_ | (refine ar_drawS (id := 6) tt_ok (by kernel_rfl) [.elem (Tr.eI (a.getD i 0)), .elem (Tr.eI (b.getD i 0))] ?_; refine ed_hide ?_; intro K_ hK_; repeat' (first | ((first | refine ed_call3 ?_ | refine ed_sure3 ?_ | refine ed_cons3 ?_); refine ed_hide ?_; intro K_ hK_; (try refine nrmE ?_)) | (refine ed_nil ?_; (repeat subst hK_); dsimp only; refine Exists.intro _ (And.intro rfl (And.intro (by kernel_rfl) (And.intro ?_ ?_))); rotate_left; (try refine nrm ?_); rotate_right))) | (first | ((first | refine ar_region tt_ok (inps := []) rfl ?_ ?_); rotate_left; (try refine nrm ?_); rotate_right) | refine ret3 ?_ | refine end3 ?_) | (refine ar_cond rfl trivial ?_ ?_ <;> intro hc_ <;> (try simp only [isNilI, inB, reduceCtorEq, cds] at hc_) <;> (try (first | contradiction | (exfalso; omega)))) | refine ar_until (And.intro ?_ (wk3 ?_)))
  all_goals (first | refine ar_id ?_ | (try (focus ((try refine nrmO ?_); (repeat' (first | exact True.intro | refine And.intro ?_ ?_)); all_goals (try (intro (hg_ : _ = true); (try simp only [isNilI, inB, reduceCtorEq, cds] at hg_); (repeat' (first | exact True.intro | refine And.intro ?_ ?_)))); all_goals (first | exact ob1 | skip)))))
  · exact bf (take_ne 0 (by omega) (by omega) hc_)
  · exact take_eqs 0 hiI_ (by omega) (by omega) hc_
  · exact bt (take_all hiI_ (by omega) hl)
def c_sameB (a b : List Bool) : CFD := ⟨90, [.one (ro 4 1 Tr.eB a), .one (ro 4 1 Tr.eB b)], [], (TV.sv (.one (.lit (.bool (decide (a = b)))))), [], [], []⟩
theorem fn_sameB (a b : List Bool) (ha : a.length ≤ 1048576) : Fn Tryz.prog (c_sameB a b) := by
  refine fn_intro tt_ok Tryz.func90 rfl Tryz.call90 Tryz.ntmps90 Tryz.results90 rfl rfl rfl rfl ?_
  intro X ρ0 hb_ hgl_
  dsimp only [c_sameB]
  try refine nrm ?_
  repeat' (refine ar_id ?_; first | refine st1 ?_ | (first | ((first | refine ar_region tt_ok (inps := []) rfl ?_ ?_); rotate_left; (try refine nrm ?_); rotate_right) | refine ret3 ?_ | refine end3 ?_) | (refine ar_cond rfl trivial ?_ ?_ <;> intro hc_ <;> (try simp only [isNilI, inB, reduceCtorEq, cds] at hc_) <;> (try (first | contradiction | (exfalso; omega)))) | refine ar_until (And.intro ?_ (wk3 ?_)))
  all_goals (first | refine ar_id ?_ | (try (focus ((try refine nrmO ?_); (repeat' (first | exact True.intro | refine And.intro ?_ ?_)); all_goals (try (intro (hg_ : _ = true); (try simp only [isNilI, inB, reduceCtorEq, cds] at hg_); (repeat' (first | exact True.intro | refine And.intro ?_ ?_)))); all_goals (first | exact ob1 | skip)))))
  · exact bf fun h => by rw [h] at hc_; simp at hc_
  have hl : a.length = b.length := by omega
  refine ar_keep 51 (by dsimp only [keepS] <;> exact rfl) ?_
  refine ar_forM (a.length) (fun i => a.take i = b.take i) (fun i => [(5, (TV.sv (.one (.lit (.int .i64 (i))))))]) (fun i => []) ?_ ?_ ?_
  rotate_left
  · first | trivial | simp
  (dsimp only [rnCap, capSVs, Int.toNat_natCast, ro, Nat.reduceAdd, Nat.reduceMul, Nat.zero_add, List.map, putT, app, wrapG, gOb, argT, keys, slotOf, dropped, gAnd, wB, rnT, rnS, rnC, rnCs, rnSs, rnM, rnB, rnN, rn, lk, St.over, ded, delL, keepT, menT, menSs, menS, menCs, menC, hasN, resT, SV.cells]; refine wk3 ?_; (focus ((try refine nrmO ?_); (repeat' (first | exact True.intro | refine And.intro ?_ ?_)); all_goals (try (intro (hg_ : _ = true); (try simp only [isNilI, inB, reduceCtorEq, cds] at hg_); (repeat' (first | exact True.intro | refine And.intro ?_ ?_)))); all_goals (first | exact ob1 | exact rfl | skip))))
  rotate_right
  intro i hi_ hiI_
  dsimp only [rnCap, capSVs, Int.toNat_natCast, ro, Nat.reduceAdd, Nat.reduceMul, Nat.zero_add, List.map, putT, app, wrapG, gOb, argT, keys, slotOf, dropped, gAnd, wB, rnT, rnS, rnC, rnCs, rnSs, rnM, rnB, rnN, rn, lk, St.over, ded, delL, keepT, menT, menSs, menS, menCs, menC, hasN, resT, SV.cells]
  repeat' (refine ar_id ?_; first | refine st1 ?_ | (refine ar_drawS (id := 6) tt_ok (by kernel_rfl) [.elem (Tr.eB (a.getD i false)), .elem (Tr.eB (b.getD i false))] ?_; refine ed_hide ?_; intro K_ hK_; repeat' (first | ((first | refine ed_call3 ?_ | refine ed_sure3 ?_ | refine ed_cons3 ?_); refine ed_hide ?_; intro K_ hK_; (try refine nrmE ?_)) | (refine ed_nil ?_; (repeat subst hK_); dsimp only; refine Exists.intro _ (And.intro rfl (And.intro (by kernel_rfl) (And.intro ?_ ?_))); rotate_left; (try refine nrm ?_); rotate_right))) | (first | ((first | refine ar_region tt_ok (inps := []) rfl ?_ ?_); rotate_left; (try refine nrm ?_); rotate_right) | refine ret3 ?_ | refine end3 ?_) | (refine ar_cond rfl trivial ?_ ?_ <;> intro hc_ <;> (try simp only [isNilI, inB, reduceCtorEq, cds] at hc_) <;> (try (first | contradiction | (exfalso; omega)))) | refine ar_until (And.intro ?_ (wk3 ?_)))
  all_goals (first | refine ar_id ?_ | (try (focus ((try refine nrmO ?_); (repeat' (first | exact True.intro | refine And.intro ?_ ?_)); all_goals (try (intro (hg_ : _ = true); (try simp only [isNilI, inB, reduceCtorEq, cds] at hg_); (repeat' (first | exact True.intro | refine And.intro ?_ ?_)))); all_goals (first | exact ob1 | skip)))))
  all_goals first
    | exact bf (take_ne false (by omega) (by omega) hc_)
    | exact take_eqs false hiI_ (by omega) (by omega) hc_
    | exact bt (take_all hiI_ (by omega) hl)
theorem ent_eq {a b : GEntry} : a = b ↔ a.Mode = b.Mode ∧ a.Frame = b.Frame ∧ True := by cases a; cases b; simp
def c_sameE (a b : List GEntry) : CFD := ⟨44, [.one (ro 47 2 eEntry a), .one (ro 47 2 eEntry b)], [], (TV.sv (.one (.lit (.bool (decide (a = b)))))), [], [], []⟩
theorem fn_sameE (a b : List GEntry) (ha : a.length ≤ 1048576) : Fn Tryz.prog (c_sameE a b) := by
  refine fn_intro tt_ok Tryz.func44 rfl Tryz.call44 Tryz.ntmps44 Tryz.results44 rfl rfl rfl rfl ?_
  intro X ρ0 hb_ hgl_
  dsimp only [c_sameE]
  try refine nrm ?_
  repeat' (refine ar_id ?_; first | refine st1 ?_ | (first | ((first | refine ar_region tt_ok (inps := []) rfl ?_ ?_); rotate_left; (try refine nrm ?_); rotate_right) | refine ret3 ?_ | refine end3 ?_) | (refine ar_cond rfl trivial ?_ ?_ <;> intro hc_ <;> (try simp only [isNilI, inB, reduceCtorEq, cds] at hc_) <;> (try (first | contradiction | (exfalso; omega)))) | refine ar_until (And.intro ?_ (wk3 ?_)))
  all_goals (first | refine ar_id ?_ | (try (focus ((try refine nrmO ?_); (repeat' (first | exact True.intro | refine And.intro ?_ ?_)); all_goals (try (intro (hg_ : _ = true); (try simp only [isNilI, inB, reduceCtorEq, cds] at hg_); (repeat' (first | exact True.intro | refine And.intro ?_ ?_)))); all_goals (first | exact ob1 | skip)))))
  · exact bf fun h => by rw [h] at hc_; simp at hc_
  have hl : a.length = b.length := by omega
  refine ar_keep 51 (by dsimp only [keepS] <;> exact rfl) ?_
  refine ar_forM (a.length) (fun i => a.take i = b.take i) (fun i => [(5, (TV.sv (.one (.lit (.int .i64 (i))))))]) (fun i => []) ?_ ?_ ?_
  rotate_left
  · first | trivial | simp
  (dsimp only [rnCap, capSVs, Int.toNat_natCast, ro, Nat.reduceAdd, Nat.reduceMul, Nat.zero_add, List.map, putT, app, wrapG, gOb, argT, keys, slotOf, dropped, gAnd, wB, rnT, rnS, rnC, rnCs, rnSs, rnM, rnB, rnN, rn, lk, St.over, ded, delL, keepT, menT, menSs, menS, menCs, menC, hasN, resT, SV.cells]; refine wk3 ?_; (focus ((try refine nrmO ?_); (repeat' (first | exact True.intro | refine And.intro ?_ ?_)); all_goals (try (intro (hg_ : _ = true); (try simp only [isNilI, inB, reduceCtorEq, cds] at hg_); (repeat' (first | exact True.intro | refine And.intro ?_ ?_)))); all_goals (first | exact ob1 | exact rfl | skip))))
  rotate_right
  intro i hi_ hiI_
  dsimp only [rnCap, capSVs, Int.toNat_natCast, ro, Nat.reduceAdd, Nat.reduceMul, Nat.zero_add, List.map, putT, app, wrapG, gOb, argT, keys, slotOf, dropped, gAnd, wB, rnT, rnS, rnC, rnCs, rnSs, rnM, rnB, rnN, rn, lk, St.over, ded, delL, keepT, menT, menSs, menS, menCs, menC, hasN, resT, SV.cells]
  repeat' (refine ar_id ?_; first | refine st1 ?_ | (refine ar_drawS (id := 6) tt_ok (by kernel_rfl) [.elem (eEntry (a.getD i ⟨0, 0⟩)), .elem (eEntry (b.getD i ⟨0, 0⟩))] ?_; refine ed_hide ?_; intro K_ hK_; repeat' (first | ((first | refine ed_call3 ?_ | refine ed_sure3 ?_ | refine ed_cons3 ?_); refine ed_hide ?_; intro K_ hK_; (try refine nrmE ?_)) | (refine ed_nil ?_; (repeat subst hK_); dsimp only; refine Exists.intro _ (And.intro rfl (And.intro (by kernel_rfl) (And.intro ?_ ?_))); rotate_left; (try refine nrm ?_); rotate_right))) | (first | ((first | refine ar_region tt_ok (inps := []) rfl ?_ ?_); rotate_left; (try refine nrm ?_); rotate_right) | refine ret3 ?_ | refine end3 ?_) | (refine ar_cond rfl trivial ?_ ?_ <;> intro hc_ <;> (try simp only [isNilI, inB, reduceCtorEq, cds] at hc_) <;> (try (first | contradiction | (exfalso; omega)))) | refine ar_until (And.intro ?_ (wk3 ?_)))
  all_goals (first | refine ar_id ?_ | (try (focus ((try refine nrmO ?_); (repeat' (first | exact True.intro | refine And.intro ?_ ?_)); all_goals (try (intro (hg_ : _ = true); (try simp only [isNilI, inB, reduceCtorEq, cds] at hg_); (repeat' (first | exact True.intro | refine And.intro ?_ ?_)))); all_goals (first | exact ob1 | skip)))))
  · exact bf (take_ne (⟨0, 0⟩ : GEntry) (a := a) (b := b) (i := i) (by omega) (by omega) (fun h => by rw [h] at hc_; simp at hc_))
  · exact take_eqs (⟨0, 0⟩ : GEntry) hiI_ (by omega) (by omega) (ent_eq.2 hc_)
  · exact bt (take_all hiI_ (by omega) hl)
def c_sameL (a b : List (List Int)) : CFD := ⟨89, [.one (ro 33 1 eIntS a), .one (ro 33 1 eIntS b)], [], (TV.sv (.one (.lit (.bool (decide (a = b)))))), [], [], []⟩
theorem fn_sameL (a b : List (List Int)) (ha : a.length ≤ 1048576) (hr : ∀ r ∈ a, r.length ≤ 1048576) : Fn Tryz.prog (c_sameL a b) := by
  refine fn_intro tt_ok Tryz.func89 rfl Tryz.call89 Tryz.ntmps89 Tryz.results89 rfl rfl rfl rfl ?_
  intro X ρ0 hb_ hgl_
  dsimp only [c_sameL]
  try refine nrm ?_
  repeat' (refine ar_id ?_; first | refine st1 ?_ | (first | ((first | refine ar_region tt_ok (inps := []) rfl ?_ ?_); rotate_left; (try refine nrm ?_); rotate_right) | refine ret3 ?_ | refine end3 ?_) | (refine ar_cond rfl trivial ?_ ?_ <;> intro hc_ <;> (try simp only [isNilI, inB, reduceCtorEq, cds] at hc_) <;> (try (first | contradiction | (exfalso; omega)))) | refine ar_until (And.intro ?_ (wk3 ?_)))
  all_goals (first | refine ar_id ?_ | (try (focus ((try refine nrmO ?_); (repeat' (first | exact True.intro | refine And.intro ?_ ?_)); all_goals (try (intro (hg_ : _ = true); (try simp only [isNilI, inB, reduceCtorEq, cds] at hg_); (repeat' (first | exact True.intro | refine And.intro ?_ ?_)))); all_goals (first | exact ob1 | skip)))))
  · exact bf fun h => by rw [h] at hc_; simp at hc_
  have hl : a.length = b.length := by omega
  refine ar_keep 51 (by dsimp only [keepS] <;> exact rfl) ?_
  refine ar_forM (a.length) (fun i => a.take i = b.take i) (fun i => [(5, (TV.sv (.one (.lit (.int .i64 (i))))))]) (fun i => []) ?_ ?_ ?_
  rotate_left
  · first | trivial | simp
  (dsimp only [rnCap, capSVs, Int.toNat_natCast, ro, Nat.reduceAdd, Nat.reduceMul, Nat.zero_add, List.map, putT, app, wrapG, gOb, argT, keys, slotOf, dropped, gAnd, wB, rnT, rnS, rnC, rnCs, rnSs, rnM, rnB, rnN, rn, lk, St.over, ded, delL, keepT, menT, menSs, menS, menCs, menC, hasN, resT, SV.cells]; refine wk3 ?_; (focus ((try refine nrmO ?_); (repeat' (first | exact True.intro | refine And.intro ?_ ?_)); all_goals (try (intro (hg_ : _ = true); (try simp only [isNilI, inB, reduceCtorEq, cds] at hg_); (repeat' (first | exact True.intro | refine And.intro ?_ ?_)))); all_goals (first | exact ob1 | exact rfl | skip))))
  rotate_right
  intro i hi_ hiI_
  dsimp only [rnCap, capSVs, Int.toNat_natCast, ro, Nat.reduceAdd, Nat.reduceMul, Nat.zero_add, List.map, putT, app, wrapG, gOb, argT, keys, slotOf, dropped, gAnd, wB, rnT, rnS, rnC, rnCs, rnSs, rnM, rnB, rnN, rn, lk, St.over, ded, delL, keepT, menT, menSs, menS, menCs, menC, hasN, resT, SV.cells]
  repeat' (refine ar_id ?_; first | refine st1 ?_ | (refine ar_drawS (id := 6) tt_ok (by kernel_rfl) [.elem (eIntS (a.getD i [])), .elem (eIntS (b.getD i [])), .call (c_sameI (a.getD i []) (b.getD i []))] ?_; refine ed_hide ?_; intro K_ hK_; repeat' (first | ((first | refine ed_call3 ?_ | refine ed_sure3 ?_ | refine ed_cons3 ?_); refine ed_hide ?_; intro K_ hK_; (try dsimp only [c_sameI]); (try refine nrmE ?_)) | (refine ed_nil ?_; (repeat subst hK_); dsimp only; refine Exists.intro _ (And.intro rfl (And.intro (by kernel_rfl) (And.intro ?_ ?_))); rotate_left; (try dsimp only [c_sameI]); (try refine nrm ?_); rotate_right))) | (first | ((first | refine ar_region tt_ok (inps := []) rfl ?_ ?_); rotate_left; (try dsimp only [c_sameI]); (try refine nrm ?_); rotate_right) | refine ret3 ?_ | refine end3 ?_) | (refine ar_cond rfl trivial ?_ ?_ <;> intro hc_ <;> (try simp only [isNilI, inB, reduceCtorEq, cds] at hc_) <;> (try (first | contradiction | (exfalso; omega)))) | refine ar_until (And.intro ?_ (wk3 ?_)))
  all_goals (first | refine ar_id ?_ | (try (focus ((try refine nrmO ?_); (repeat' (first | exact True.intro | refine And.intro ?_ ?_)); all_goals (try (intro (hg_ : _ = true); (try simp only [isNilI, inB, reduceCtorEq, cds] at hg_); (repeat' (first | exact True.intro | refine And.intro ?_ ?_)))); all_goals (first | exact ob1 | exact fn_sameI _ _ (hr _ (getD_in (by omega))) | skip)))))
  all_goals first
    | exact bf (take_ne [] (by omega) (by omega) hc_)
    | exact take_eqs [] hiI_ (by omega) (by omega) hc_
    | exact bt (take_all hiI_ (by omega) hl)
def c_sameF (a b : GFrames) : CFD := ⟨43, [.agg [ro 33 1 eIntS a.Cells, ro 4 1 Tr.eB a.Used], .agg [ro 33 1 eIntS b.Cells, ro 4 1 Tr.eB b.Used]], [], (TV.sv (.one (.lit (.bool (decide (a.Cells = b.Cells) && decide (a.Used = b.Used)))))), [], [], []⟩
theorem fn_sameF (a b : GFrames) (h1 : a.Cells.length ≤ 1048576) (h2 : a.Used.length ≤ 1048576) (hr : ∀ r ∈ a.Cells, r.length ≤ 1048576) : Fn Tryz.prog (c_sameF a b) := by
  refine fn_intro tt_ok Tryz.func43 rfl Tryz.call43 Tryz.ntmps43 Tryz.results43 rfl rfl rfl rfl ?_
  intro X ρ0 hb_ hgl_
  dsimp only [c_sameF]
  try refine nrm ?_
  repeat' (refine ar_id ?_; first | refine st1 ?_ | (first | ((first | refine ar_region (id := 1) tt_ok (inps := [.call (c_sameL a.Cells b.Cells), .call (c_sameB a.Used b.Used)]) rfl ?_ ?_ | refine ar_region tt_ok (inps := []) rfl ?_ ?_); rotate_left; (try dsimp only [c_sameB, c_sameL]); (try refine nrm ?_); rotate_right) | refine ret3 ?_ | refine end3 ?_) | (refine ar_cond rfl trivial ?_ ?_ <;> intro hc_ <;> (try simp only [isNilI, inB, reduceCtorEq, cds] at hc_) <;> (try (first | contradiction | (exfalso; omega)))) | refine ar_until (And.intro ?_ (wk3 ?_)))
  all_goals (first | refine ar_id ?_ | (try (focus ((try refine nrmO ?_); (repeat' (first | exact True.intro | refine And.intro ?_ ?_)); all_goals (try (intro (hg_ : _ = true); (try simp only [isNilI, inB, reduceCtorEq, cds] at hg_); (repeat' (first | exact True.intro | refine And.intro ?_ ?_)))); all_goals (first | exact ob1 | exact fn_sameL _ _ h1 hr | exact fn_sameB _ _ h2 | skip)))))
  rw [Bool.cond_false_right]
def c_sameM (a b : GMachine) : CFD := ⟨12, [.agg [ro 33 1 eIntS a.Frames.Cells, ro 4 1 Tr.eB a.Frames.Used, ro 47 2 eEntry a.Table.Entries], .agg [ro 33 1 eIntS b.Frames.Cells, ro 4 1 Tr.eB b.Frames.Used, ro 47 2 eEntry b.Table.Entries]], [], (TV.sv (.one (.lit (.bool ((decide (a.Frames.Cells = b.Frames.Cells) && decide (a.Frames.Used = b.Frames.Used)) && decide (a.Table.Entries = b.Table.Entries)))))), [], [], []⟩
theorem fn_sameM (a b : GMachine) (h1 : a.Frames.Cells.length ≤ 1048576) (h2 : a.Frames.Used.length ≤ 1048576) (h3 : a.Table.Entries.length ≤ 1048576) (hr : ∀ r ∈ a.Frames.Cells, r.length ≤ 1048576) : Fn Tryz.prog (c_sameM a b) := by
  refine fn_intro tt_ok Tryz.func12 rfl Tryz.call12 Tryz.ntmps12 Tryz.results12 rfl rfl rfl rfl ?_
  intro X ρ0 hb_ hgl_
  dsimp only [c_sameM]
  try refine nrm ?_
  repeat' (refine ar_id ?_; first | refine st1 ?_ | (first | ((first | refine ar_region (id := 1) tt_ok (inps := [.call (c_sameF a.Frames b.Frames), .call (c_sameE a.Table.Entries b.Table.Entries)]) rfl ?_ ?_ | refine ar_region tt_ok (inps := []) rfl ?_ ?_); rotate_left; (try dsimp only [c_sameE, c_sameF]); (try refine nrm ?_); rotate_right) | refine ret3 ?_ | refine end3 ?_) | (refine ar_cond rfl trivial ?_ ?_ <;> intro hc_ <;> (try simp only [isNilI, inB, reduceCtorEq, cds] at hc_) <;> (try (first | contradiction | (exfalso; omega)))) | refine ar_until (And.intro ?_ (wk3 ?_)))
  all_goals (first | refine ar_id ?_ | (try (focus ((try refine nrmO ?_); (repeat' (first | exact True.intro | refine And.intro ?_ ?_)); all_goals (try (intro (hg_ : _ = true); (try simp only [isNilI, inB, reduceCtorEq, cds] at hg_); (repeat' (first | exact True.intro | refine And.intro ?_ ?_)))); all_goals (first | exact ob1 | exact fn_sameF _ _ h1 h2 hr | exact fn_sameE _ _ h3 | skip)))))
  rw [Bool.cond_false_right]
theorem sameM_refl (a : GMachine) : ((decide (a.Frames.Cells = a.Frames.Cells) && decide (a.Frames.Used = a.Frames.Used)) && decide (a.Table.Entries = a.Table.Entries)) = true := by simp
end Eng
end Go.Proofs.YtgeakpeodhhffaaGreatDoor
namespace Go.Proofs.YtgeakpeodhhffaaGreatDoor
open Go.RowKit
set_option linter.unusedVariables false
set_option linter.unusedSimpArgs false
set_option maxRecDepth 100000
namespace Eng
open Tr
/-- a slice of bytes that came in -/
def IsRow (w : World) (a : Option Addr) (len cap : Nat) (zs : List Int) : Prop :=
  (a = none ∧ len = 0 ∧ cap = 0 ∧ zs = []) ∨
  ∃ x, a = some x ∧ len ≤ cap ∧ cap ≤ maxLen ∧ zs.length = cap ∧ (∀ i, i < zs.length → w.cell? (x.add i) = some (.int .u8 (zs.getD i 0))) ∧ ∀ n ∈ zs, (Lit.int .u8 n).wf = true
theorem lt_of_cell {w : World} {g o : Nat} {v : Value} (h : w.cell? ⟨g, o, none⟩ = some v) : g < w.heap.size := by
  rcases Nat.lt_or_ge g w.heap.size with h' | h'
  · exact h'
  · simp [World.cell?, Array.getElem?_eq_none h'] at h
theorem own_u8 {w : World} : ∀ l : List Int, RdO w (· < w.heap.size) (D.cat (l.map eU)) (l.map (Value.int .u8))
  | [] => rfl
  | x :: l => ⟨_, rfl, own_u8 l⟩
/-- the bytes that come in, as0 the engine reads them -/
theorem arg_bytes {w : World} {a : Option Addr} {len cap : Nat} {zs : List Int} (h : IsRow w a len cap zs) : ∃ bs : List Int, bs.length = len ∧ (∀ x ∈ bs, 0 ≤ x ∧ x ≤ 255) ∧ SRel (cxOf w) noEnv (.one (ro 5 1 eU bs)) (.slice a len cap) := by
  rcases h with ⟨rfl, rfl, rfl, rfl⟩ | ⟨x, rfl, h1, h2, h3, h4, h5⟩
  · exact ⟨[], rfl, (fun x hx => (nomatch hx)), _, [], rfl, rfl, .inl ⟨⟨none, 0, rfl, fun _ => rfl⟩, rfl, rfl⟩⟩
  · refine ⟨zs.take len, by rw [List.length_take]; omega, fun y hy => ?_, ?_⟩
    · have := h5 y (List.mem_of_mem_take hy)
      simp [Lit.wf] at this
      have hm : IntKind.u8.min = 0 := rfl
      have hM : IntKind.u8.max = 255 := rfl
      omega
    · by_cases hc : cap = 0
      · have hl : len = 0 := by omega
        subst hl hc
        exact ⟨_, [], rfl, rfl, .inl ⟨⟨some x, 0, rfl, fun _ => rfl⟩, rfl, rfl⟩⟩
      · have h0 := h4 0 (by omega)
        have ha : x.add 0 = x := by unfold Addr.add; rw [if_pos rfl]
        rw [ha] at h0
        have e := addr_of_cell h0
        have hlen : (zs.take len).length = len := by rw [List.length_take]; omega
        refine ⟨_, [], rfl, rfl, .inr ⟨x.block, x.off, cap, (zs.take len).map (Value.int .u8), ?_, ?_, h2, ?_, fun j hj => ?_, fun hp => ?_, own_u8 _⟩⟩
        · rw [← e, hlen]
        · rw [hlen]; exact h1
        · rw [List.length_map, Nat.mul_one]
        · rw [hlen, Nat.mul_one] at hj
          have h6 := h4 j (by omega)
          rw [e, Addr.add_lit] at h6
          show w.cell? _ = _
          rw [h6, List.getElem?_map, List.getElem?_take, if_pos hj, List.getElem?_eq_getElem (by omega)]
          simp [List.getD_eq_getElem?_getD, List.getElem?_eq_getElem (show j < zs.length by omega)]
        · have h6 := h4 0 (by omega)
          rw [ha, e] at h6
          exact lt_of_cell h6
def c_big (bs : List Int) : CFD := ⟨5, [.one (ro 5 1 eU bs)], [], (TV.sv (.one (.lit (.bool (decide (1048576 < (bs.length : Int))))))), [], [], []⟩
theorem fn_big (bs : List Int) : Fn Tryz.prog (c_big bs) := by
  refine fn_intro tt_ok Tryz.func5 rfl Tryz.call5 Tryz.ntmps5 Tryz.results5 rfl rfl rfl rfl ?_
  intro X ρ0 hb_ hgl_
  dsimp only [c_big]
  try refine nrm ?_
  repeat' (refine ar_id ?_; first | refine st1 ?_ | (first | ((first | refine ar_region tt_ok (inps := []) rfl ?_ ?_); rotate_left; (try refine nrm ?_); rotate_right) | refine ret3 ?_ | refine end3 ?_) | (refine ar_cond rfl trivial ?_ ?_ <;> intro hc_ <;> (try simp only [isNilI, inB, reduceCtorEq, cds] at hc_) <;> (try (first | contradiction | (exfalso; omega)))) | refine ar_until (And.intro ?_ (wk3 ?_)))
  all_goals (first | refine ar_id ?_ | (try (focus ((try refine nrmO ?_); (repeat' (first | exact True.intro | refine And.intro ?_ ?_)); all_goals (try (intro (hg_ : _ = true); (try simp only [isNilI, inB, reduceCtorEq, cds] at hg_); (repeat' (first | exact True.intro | refine And.intro ?_ ?_)))); all_goals (first | exact ob1 | skip)))))
end Eng
end Go.Proofs.YtgeakpeodhhffaaGreatDoor
namespace Go.Proofs.YtgeakpeodhhffaaGreatDoor
open Go.RowKit
set_option linter.unusedVariables false
set_option linter.unusedSimpArgs false
set_option maxRecDepth 100000
namespace Tr
open Bm Cl
theorem fr_at {s : GSpan} {slot : Int} (h : pSpanOk s = true) (hh : has s.Bits slot = true) : frAt s slot + (csz s.Class).toNat ≤ 16 ∧ ((frAt s slot : Nat) : Int) = slot * csz s.Class ∧ pSpanAddr s slot = s.Page * 16 + slot * csz s.Class := by
  obtain ⟨h1, h2, ⟨h3, h4⟩, h5, h6⟩ := slot_bds h hh
  exact ⟨by unfold frAt; omega, by unfold frAt; omega, if_pos ⟨h, h1, h2⟩⟩
theorem load_page {m : GMachine} (ho : okM m) {p x : Int} (hp : 0 ≤ p) (hx : 0 ≤ x ∧ x ≤ 15) (hm : (pPageEntry m.Table p).Mode ≠ 0) : pLoad m (p * 16 + x) = (cellOf m (pPageEntry m.Table p).Frame x, 0) := by
  have he : pEntry m (p * 16 + x) = (pPageEntry m.Table p, x) := by
    unfold pEntry
    rw [if_neg (by omega), show (p * 16 + x) / 16 = p by omega, show (p * 16 + x) % 16 = x by omega]
  unfold pLoad
  rw [if_pos ⟨ho, by rw [he]; exact hm⟩, he]
/-- a freed slot is empty; the page's other cells stay -/
theorem freed_cells {k : GKernel} {s : GSpan} {slot : Int} (h0 : frCode k s slot = 0) (x : Int) (hx : 0 ≤ x ∧ x ≤ 15) : pLoad (frK k s slot).Machine (s.Page * 16 + x) = if slot * csz s.Class ≤ x ∧ x < slot * csz s.Class + csz s.Class then (0, 0) else pLoad k.Machine (s.Page * 16 + x) := by
  obtain ⟨h1, h2, h3, h4⟩ : (pSpanOk s = true ∧ has s.Bits slot = true) ∧ okK k ∧ modeOf k s.Page ≠ 0 ∧ modeOf k s.Page ≠ 1 := by
    rcases fr_cases k s slot with ⟨h, _⟩ | ⟨h, _⟩ | ⟨h, _⟩ | ⟨_, h⟩
    · rw [h] at h0; cases h0
    · rw [h] at h0; cases h0
    · rw [h] at h0; cases h0
    · exact h
  obtain ⟨a1, a2, a3⟩ := fr_at h1.1 h1.2
  have hcs := (slot_bds h1.1 h1.2).2.2.2
  obtain ⟨f, hf, hf1, _, hf2, hf3⟩ := okM_entry h2.1 (show (pPageEntry k.Machine.Table s.Page).Mode ≠ 0 from h3)
  have hp := (span_parts h1.1).1.1
  have hfr : frFrame k s = f := by unfold frFrame; rw [hf]; rfl
  have hw : okM (frK k s slot).Machine := okM_wiped h2.1 _ _ _
  rw [load_page hw hp hx (show (pPageEntry k.Machine.Table s.Page).Mode ≠ 0 from h3), load_page h2.1 hp hx (show (pPageEntry k.Machine.Table s.Page).Mode ≠ 0 from h3)]
  show (cellOf (frK k s slot).Machine (pPageEntry k.Machine.Table s.Page).Frame x, 0) = _
  unfold cellOf frK wiped
  dsimp only
  rw [hfr, hf, Int.toNat_natCast, getD_set_row, if_pos ⟨rfl, hf1⟩]
  rw [List.getD_eq_getElem?_getD, wipe_at _ _ _ _ (by omega)]
  by_cases hin : slot * csz s.Class ≤ x ∧ x < slot * csz s.Class + csz s.Class
  · rw [if_pos hin, if_pos (by omega)]; rfl
  · rw [if_neg hin, if_neg (by omega)]
    simp only [List.getD_eq_getElem?_getD]
theorem freed_clear {k : GKernel} {s : GSpan} {slot : Int} (h0 : frCode k s slot = 0) : pSlotClear (frK k s slot) s slot := by
  have h1 : pSpanOk s = true ∧ has s.Bits slot = true := by
    rcases fr_cases k s slot with ⟨h, _⟩ | ⟨h, _⟩ | ⟨h, _⟩ | ⟨_, h, _⟩
    · rw [h] at h0; cases h0
    · rw [h] at h0; cases h0
    · rw [h] at h0; cases h0
    · exact h
  obtain ⟨a1, a2, a3⟩ := fr_at h1.1 h1.2
  have hb := slot_bds h1.1 h1.2
  have hp := (span_parts h1.1).1.1
  unfold pSlotClear
  rw [a3]
  refine ⟨by omega, fun j hj => ?_⟩
  have := freed_cells h0 (slot * csz s.Class + (j : Int)) (by omega)
  rw [if_pos (by omega)] at this
  rw [Int.add_assoc]
  exact this
theorem unset_has {b i : Int} (hb : 0 ≤ b) (hi : 0 ≤ i ∧ i ≤ 15) : has (unset b i) i = false := by
  obtain ⟨n, rfl⟩ := Int.eq_ofNat_of_zero_le hb
  obtain ⟨j, rfl⟩ := Int.eq_ofNat_of_zero_le hi.1
  exact has_unset_self n j (by omega)
/-- a span with nothing in use, on a page that is not mapped -/
theorem code_none {k : GKernel} (h : modeOf k 0 = 0) : frCode k ⟨0, 0, 1⟩ 0 = 3 := by
  have h1 : pSpanOk ⟨0, 0, 1⟩ = true ∧ has (⟨0, 0, 1⟩ : GSpan).Bits 0 = true := by decide
  unfold frCode
  rw [if_neg (fun x => x h1), if_pos (.inr h)]
theorem clr_le (n i : Nat) : clr n i ≤ n := Nat.and_le_left
end Tr
end Go.Proofs.YtgeakpeodhhffaaGreatDoor
namespace Go.Proofs.YtgeakpeodhhffaaGreatDoor
open Go.RowKit
set_option linter.unusedVariables false
set_option linter.unusedSimpArgs false
set_option maxRecDepth 100000
namespace Eng
open Tr
def c_Pages16 (bs : List Int) (k : GKernel) (ss : List GSpan) : CFD := ⟨6, [.one (ro 5 1 eU bs)], [], .tup [.agg [.hd 0, .hd 1, .hd 2, (CV.lit (.int .i64 (k.Calls))), .hd 3], .one (.hd 4)], [(0, some (.row 33 1 (k.Machine.Frames.Cells.map eIntS))), (1, some (.row 4 1 (k.Machine.Frames.Used.map Tr.eB))), (2, some (.row 47 2 (k.Machine.Table.Entries.map eEntry))), (3, some (.row 3 1 (k.Refuse.map Tr.eI))), (4, some (.row 41 3 (ss.map eSpan)))], [0, 1, 2, 3, 4], []⟩
theorem fn_Pages16 (bs : List Int) (r : DS) (hl : bs.length ≤ 2097152) (hb : ∀ x ∈ bs, 0 ≤ x ∧ x ≤ 255) (h : dCase bs (dNew bs) = r) : Fn Tryz.prog (c_Pages16 bs r.k r.ss) := by
  have hC := fn_Case16 bs (dNew bs) r (dNew_ok hl hb) h
  refine fn_intro tt_ok Tryz.func6 rfl Tryz.call6 Tryz.ntmps6 Tryz.results6 rfl rfl rfl rfl ?_
  intro X ρ0 hb_ hgl_
  dsimp only [c_Pages16]
  try refine nrm ?_
  repeat' (refine ar_id ?_; first | refine st1 ?_ | (refine ar_run (id := 1) [.call (c_NewC bs), .call (c_Case16 bs (dNew bs) r)] ?_; generalize hQ_ : kont _ _ _ _ = Q_; repeat' (first | (focus ((first | refine as_call3 tt_ok ?_ ?_ | refine as_sure3 tt_ok ?_ ?_ | refine as_cons3 tt_ok ?_ ?_); (try dsimp only [c_Case16, c_NewC]); (try refine nrm ?_); rotate_left)) | (subst hQ_; refine as_nil ?_))) | (first | ((first | refine ar_region tt_ok (inps := []) rfl ?_ ?_); rotate_left; (try dsimp only [c_Case16, c_NewC]); (try refine nrm ?_); rotate_right) | refine ret3 ?_ | refine end3 ?_) | (refine ar_cond rfl trivial ?_ ?_ <;> intro hc_ <;> (try simp only [isNilI, inB, reduceCtorEq, cds] at hc_) <;> (try (first | contradiction | (exfalso; omega)))) | refine ar_until (And.intro ?_ (wk3 ?_)))
  all_goals (first | refine ar_id ?_ | (try (focus ((try refine nrmO ?_); (repeat' (first | exact True.intro | refine And.intro ?_ ?_)); all_goals (try (intro (hg_ : _ = true); (try simp only [isNilI, inB, reduceCtorEq, cds] at hg_); (repeat' (first | exact True.intro | refine And.intro ?_ ?_)))); all_goals (first | exact ob1 | exact fn_NewC bs hl hb | exact hC | skip)))))
  all_goals trace_state
theorem modAt {n x : Int} (h0 : 0 ≤ x) (hn : 1 ≤ n) : 0 ≤ x.tmod n ∧ x.tmod n < n := tmod_bd h0 hn
def c_LFrees (t : Tb) (S : Se) (bs : List Int) : CFD := ⟨3, [.one (ro 5 1 eU bs)], [], (TV.sv (.one (.lit (.bool (true))))), [], [], t.gM :: t.gS :: S.gl⟩
set_option maxHeartbeats 16000000 in
theorem fn_LFrees (t : Tb) (S : Se) (bs : List Int) (hb : ∀ x ∈ bs, 0 ≤ x ∧ x ≤ 255) : Fn Tryz.prog (c_LFrees t S bs) := by
  by_cases hl : (1048576 : Int) < (bs.length : Int)
  · have hd := decide_eq_true hl
    refine fn_intro tt_ok Tryz.func3 rfl Tryz.call3 Tryz.ntmps3 Tryz.results3 rfl rfl rfl rfl ?_
    intro X ρ0 hb_ hgl_
    dsimp only [c_LFrees]
    try refine nrm ?_
    repeat' (refine ar_id ?_; first | refine st1 ?_ | (first | ((first | refine ar_region (id := 1) tt_ok (inps := [.call (c_big bs)]) rfl ?_ ?_ | refine ar_region tt_ok (inps := []) rfl ?_ ?_); rotate_left; (try dsimp only [c_big]); (try refine nrm ?_); rotate_right) | refine ret3 ?_ | refine end3 ?_) | (refine ar_cond rfl trivial ?_ ?_ <;> intro hc_ <;> (try simp only [isNilI, inB, reduceCtorEq, cds] at hc_) <;> (try (first | contradiction | (exfalso; omega)))) | refine ar_until (And.intro ?_ (wk3 ?_)))
    all_goals (first | refine ar_id ?_ | (try (focus ((try refine nrmO ?_); (repeat' (first | exact True.intro | refine And.intro ?_ ?_)); all_goals (try (intro (hg_ : _ = true); (try simp only [isNilI, inB, reduceCtorEq, cds] at hg_); (repeat' (first | exact True.intro | refine And.intro ?_ ?_)))); all_goals (first | exact ob1 | exact fn_big bs | skip)))))
  · have hl' : bs.length ≤ 2097152 := by omega
    obtain ⟨r, hr⟩ : ∃ r, dCase bs (dNew bs) = r := ⟨_, rfl⟩
    have hI := dCase_inv (dNew_ok hl' hb)
    have hD := fn_Pages16 bs r hl' hb hr
    rw [hr] at hI
    obtain ⟨hok, _, _, hsp, hn, hnone⟩ := hI
    obtain ⟨k, ss, cu⟩ := r
    dsimp only at hD hok hsp hn hnone
    clear hr
    have hs := szK8_ok hok
    obtain ⟨p0, h0⟩ : ∃ p0, plV bs 0 = p0 := ⟨_, rfl⟩
    obtain ⟨p1, h1⟩ : ∃ p1, plV bs 1 = p1 := ⟨_, rfl⟩
    obtain ⟨p2, h2⟩ : ∃ p2, plV bs 2 = p2 := ⟨_, rfl⟩
    have b0 : 0 ≤ p0 ∧ p0 < 10000 := h0 ▸ plV_lt bs 0
    have b1 : 0 ≤ p1 ∧ p1 < 10000 := h1 ▸ plV_lt bs 1
    have b2 : 0 ≤ p2 ∧ p2 < 10000 := h2 ▸ plV_lt bs 2
    have e0 : ((places bs).map eI)[0]? = some (eI p0) := by rw [← h0]; rfl
    have e1 : ((places bs).map eI)[1]? = some (eI p1) := by rw [← h1]; rfl
    have e2 : ((places bs).map eI)[2]? = some (eI p2) := by rw [← h2]; rfl
    have hpl : (places bs).length = 12 := rfl
    by_cases hz : ss = []
    · subst hz
      have hc := code_none (hnone rfl)
      have hF := fn_FrI t k ⟨0, 0, 1⟩ 0 k ⟨0, 0, 1⟩ 3 hs (by unfold pFreeSlot; rw [hc, if_neg (by decide)])
      refine fn_intro tt_ok Tryz.func3 rfl Tryz.call3 Tryz.ntmps3 Tryz.results3 rfl rfl rfl rfl ?_
      intro X ρ0 hb_ hgl_
      dsimp only [c_LFrees]
      try refine nrm ?_
      repeat' (refine ar_id ?_; first | refine st1 ?_ | (first | ((first | refine ar_region (id := 1) tt_ok (inps := [.call (c_big bs)]) rfl ?_ ?_ | refine ar_region (id := 3) tt_ok (inps := [.call (c_Pages16 bs k [])]) rfl ?_ ?_ | refine ar_region (id := 4) tt_ok (inps := [.call (c_Places bs)]) rfl ?_ ?_ | refine ar_region (id := 6) tt_ok (inps := [.call (c_FrI t k ⟨0, 0, 1⟩ 0 k ⟨0, 0, 1⟩ 3)]) rfl ?_ ?_ | refine ar_region tt_ok (inps := []) rfl ?_ ?_); rotate_left; (try dsimp only [c_FrI, c_Pages16, c_Places, c_big]); (try refine nrm ?_); rotate_right) | refine ret3 ?_ | refine end3 ?_) | (refine ar_cond rfl trivial ?_ ?_ <;> intro hc_ <;> (try simp only [isNilI, inB, reduceCtorEq, cds] at hc_) <;> (try (first | contradiction | (exfalso; omega) | (exfalso; grind)))) | refine ar_until (And.intro ?_ (wk3 ?_)))
      all_goals (first | refine ar_id ?_ | (try (focus ((try refine nrmO ?_); (repeat' (first | exact True.intro | refine And.intro ?_ ?_)); all_goals (try (intro (hg_ : _ = true); (try simp only [isNilI, inB, reduceCtorEq, cds] at hg_); (repeat' (first | exact True.intro | refine And.intro ?_ ?_)))); all_goals (first | exact ob1 | exact fn_big bs | exact hD | exact fn_Places bs hl' hb | exact hF | exact hgl_.1 | exact hgl_.2.1 | exact hgl_.2.2.1 | exact hgl_.2.2.2.1 | exact hgl_.2.2.2.2.1 | exact hgl_.2.2.2.2.2.1 | exact hgl_.2.2.2.2.2.2.1 | exact hgl_.2.2.2.2.2.2.2.1 | exact hgl_ | exact rfl | exact one1 rfl | skip)))))
      all_goals trace_state
    · have hss : 0 < ss.length := List.length_pos_iff.2 hz
      obtain ⟨j, hj⟩ : ∃ j, p0.tmod (ss.length : Int) = j := ⟨_, rfl⟩
      have hjb := modAt b0.1 (n := (ss.length : Int)) (by omega)
      rw [hj] at hjb
      obtain ⟨s, hse⟩ : ∃ s, ss.getD j.toNat noSp = s := ⟨_, rfl⟩
      have hsm : s ∈ ss := by rw [← hse]; exact getD_in (by omega)
      have hel : (ss.map eSpan)[j.toNat]? = some (eSpan s) := by rw [← hse]; exact map_at (by omega)
      have hel' : (ss.map eSpan)[(p0.tmod ((ss.map eSpan).length : Int)).toNat]? = some (eSpan s) := by rw [List.length_map, hj]; exact hel
      obtain ⟨hso, hmo, hpg3⟩ := hsp s hsm
      have hpg := (span_parts hso).1
      have hcl := span_class hso
      have hsl : 1 ≤ Cl.slots s.Class ∧ Cl.slots s.Class ≤ 16 := by rcases hcl with h | h | h | h <;> rw [h] <;> decide
      have hcz := csz_pos hcl
      obtain ⟨q, hq⟩ : ∃ q, p1.tmod (Cl.slots s.Class) = q := ⟨_, rfl⟩
      have hqb := modAt b1.1 hsl.1
      rw [hq] at hqb
      have hbb := bits_bd hso
      obtain ⟨⟨k2, s2, e⟩, hr⟩ : ∃ r, pFreeSlot k s q = r := ⟨_, rfl⟩
      have hF := fn_FrI t k s q k2 s2 e hs hr
      have hen := hs.m.e
      obtain ⟨E, hE⟩ : ∃ E, pPageEntry k.Machine.Table s.Page = E := ⟨_, rfl⟩
      have hP := fn_PageEntry k.Machine.Table s.Page hen
      unfold c_PageEntry at hP
      rw [hE] at hP
      have hmE : modeOf k s.Page = E.Mode := by unfold modeOf; rw [hE]
      have hm1 : inK .i64 (p0.tmod (ss.length : Int)) := by rw [hj]; exact i64_ok (by omega) (by omega)
      unfold pFreeSlot at hr
      rcases fr_cases k s q with ⟨hc, g1⟩ | ⟨hc, g1, g2⟩ | ⟨hc, g1, g2, g3⟩ | ⟨hc, g1, g2, g3, g4⟩
      · rw [hc, if_neg (by decide)] at hr
        obtain ⟨a1, a2⟩ := Prod.mk.inj hr
        obtain ⟨a3, a4⟩ := Prod.mk.inj a2
        subst a1 a3 a4
        have hH : Bm.has s.Bits q = false := by
          cases hh : Bm.has s.Bits q with
          | false => rfl
          | true => exact absurd ⟨hso, hh⟩ g1
        refine fn_intro tt_ok Tryz.func3 rfl Tryz.call3 Tryz.ntmps3 Tryz.results3 rfl rfl rfl rfl ?_
        intro X ρ0 hb_ hgl_
        dsimp only [c_LFrees]
        try refine nrm ?_
        repeat' (refine ar_id ?_; first | refine st1 ?_ | (first | ((first | refine ar_region (id := 1) tt_ok (inps := [.call (c_big bs)]) rfl ?_ ?_ | refine ar_region (id := 3) tt_ok (inps := [.call (c_Pages16 bs k ss)]) rfl ?_ ?_ | refine ar_region (id := 4) tt_ok (inps := [.call (c_Places bs)]) rfl ?_ ?_ | refine ar_region (id := 8) tt_ok (inps := [.elem (eI p0), .elem (eSpan s)]) rfl ?_ ?_ | refine ar_draw (id := 9) (inps := [.elem (eI p1), .call (c_SlotsS s.Class)]) tt_ok (by kernel_rfl) rfl rfl (by kernel_rfl) rfl rfl rfl rfl ?_ ?_ | refine ar_region (id := 10) tt_ok (inps := [.call (c_FrI t k s q k s 1)]) rfl ?_ ?_ | refine ar_region (id := 11) tt_ok (inps := [.call (c_HasS s.Bits q)]) rfl ?_ ?_ | refine ar_region tt_ok (inps := []) rfl ?_ ?_); rotate_left; (try dsimp only [c_FrI, c_HasS, c_Pages16, c_Places, c_SlotsS, c_big]); (try refine nrm ?_); rotate_right) | refine ret3 ?_ | refine end3 ?_) | (refine ar_cond rfl trivial ?_ ?_ <;> intro hc_ <;> (try simp only [isNilI, inB, reduceCtorEq, cds] at hc_) <;> (try (first | contradiction | (exfalso; omega) | (exfalso; grind)))) | refine ar_until (And.intro ?_ (wk3 ?_)))
        all_goals (first | refine ar_id ?_ | (try (focus ((try refine nrmO ?_); (repeat' (first | exact True.intro | refine And.intro ?_ ?_)); all_goals (try (intro (hg_ : _ = true); (try simp only [isNilI, inB, reduceCtorEq, cds] at hg_); (repeat' (first | exact True.intro | refine And.intro ?_ ?_)))); all_goals (first | exact ob1 | exact fn_big bs | exact hD | exact fn_Places bs hl' hb | exact e0 | exact hel' | exact e1 | exact fn_SlotsS _ | exact hF | exact fn_HasS _ _ (by omega) | exact hm1 | exact hgl_.1 | exact hgl_.2.1 | exact hgl_.2.2.1 | exact hgl_.2.2.2.1 | exact hgl_.2.2.2.2.1 | exact hgl_.2.2.2.2.2.1 | exact hgl_.2.2.2.2.2.2.1 | exact hgl_.2.2.2.2.2.2.2.1 | exact hgl_ | exact rfl | exact one1 rfl | skip)))))
        all_goals first | (refine congrArg Value.bool ?_; simp; done) | trace_state
      · exact absurd (g2.resolve_left (fun x => x hok)) hmo
      · rw [hc, if_neg (by decide)] at hr
        obtain ⟨a1, a2⟩ := Prod.mk.inj hr
        obtain ⟨a3, a4⟩ := Prod.mk.inj a2
        subst a1 a3 a4
        have hM := fn_sameM k.Machine k.Machine hs.m.c hs.m.u hen hs.m.r
        refine fn_intro tt_ok Tryz.func3 rfl Tryz.call3 Tryz.ntmps3 Tryz.results3 rfl rfl rfl rfl ?_
        intro X ρ0 hb_ hgl_
        dsimp only [c_LFrees]
        try refine nrm ?_
        repeat' (refine ar_id ?_; first | refine st1 ?_ | (first | ((first | refine ar_region (id := 1) tt_ok (inps := [.call (c_big bs)]) rfl ?_ ?_ | refine ar_region (id := 3) tt_ok (inps := [.call (c_Pages16 bs k ss)]) rfl ?_ ?_ | refine ar_region (id := 4) tt_ok (inps := [.call (c_Places bs)]) rfl ?_ ?_ | refine ar_region (id := 8) tt_ok (inps := [.elem (eI p0), .elem (eSpan s)]) rfl ?_ ?_ | refine ar_draw (id := 9) (inps := [.elem (eI p1), .call (c_SlotsS s.Class)]) tt_ok (by kernel_rfl) rfl rfl (by kernel_rfl) rfl rfl rfl rfl ?_ ?_ | refine ar_region (id := 10) tt_ok (inps := [.call (c_FrI t k s q k s 2)]) rfl ?_ ?_ | refine ar_region (id := 11) tt_ok (inps := [.call (c_HasS s.Bits q)]) rfl ?_ ?_ | refine ar_region (id := 13) tt_ok (inps := [.call (⟨11, [.agg [ro 47 2 eEntry k.Machine.Table.Entries], (SV.one (.lit (.int .i64 (s.Page))))], [], .sv (.agg [(CV.lit (.int .i64 (E.Mode))), (CV.lit (.int .i64 (E.Frame)))]), [], [], []⟩)]) rfl ?_ ?_ | refine ar_region (id := 14) tt_ok (inps := [.call (c_sameM k.Machine k.Machine)]) rfl ?_ ?_ | refine ar_region tt_ok (inps := []) rfl ?_ ?_); rotate_left; (try dsimp only [c_FrI, c_HasS, c_Pages16, c_Places, c_SlotsS, c_big, c_sameM]); (try refine nrm ?_); rotate_right) | refine ret3 ?_ | refine end3 ?_) | (refine ar_cond rfl trivial ?_ ?_ <;> intro hc_ <;> (try simp only [isNilI, inB, reduceCtorEq, cds] at hc_) <;> (try (first | contradiction | (exfalso; omega) | (exfalso; grind)))) | refine ar_until (And.intro ?_ (wk3 ?_)))
        all_goals (first | refine ar_id ?_ | (try (focus ((try refine nrmO ?_); (repeat' (first | exact True.intro | refine And.intro ?_ ?_)); all_goals (try (intro (hg_ : _ = true); (try simp only [isNilI, inB, reduceCtorEq, cds] at hg_); (repeat' (first | exact True.intro | refine And.intro ?_ ?_)))); all_goals (first | exact ob1 | exact fn_big bs | exact hD | exact fn_Places bs hl' hb | exact e0 | exact hel' | exact e1 | exact fn_SlotsS _ | exact hF | exact fn_HasS _ _ (by omega) | exact hm1 | exact hP | exact hM | exact hgl_.1 | exact hgl_.2.1 | exact hgl_.2.2.1 | exact hgl_.2.2.2.1 | exact hgl_.2.2.2.2.1 | exact hgl_.2.2.2.2.2.1 | exact hgl_.2.2.2.2.2.2.1 | exact hgl_.2.2.2.2.2.2.2.1 | exact hgl_ | exact rfl | exact one1 rfl | skip)))))
        all_goals first | (refine congrArg Value.bool ?_; rw [sameM_refl]; simp; done) | trace_state
      · rw [hc, if_pos rfl] at hr
        obtain ⟨a1, a2⟩ := Prod.mk.inj hr
        obtain ⟨a3, a4⟩ := Prod.mk.inj a2
        have hclr := freed_clear hc
        have hfc := freed_cells hc
        have hk2 : okK (frK k s q) := ⟨okM_wiped g2.1 _ _ _, g2.2⟩
        rw [a1] at hclr hfc hk2
        subst a3 a4
        obtain ⟨o, ho⟩ : ∃ o, p2.tmod 16 = o := ⟨_, rfl⟩
        have hob := modAt b2.1 (n := 16) (by decide)
        rw [ho] at hob
        obtain ⟨⟨v, x3⟩, hv⟩ : ∃ z, pLoad k.Machine (16 * s.Page + o) = z := ⟨_, rfl⟩
        obtain ⟨⟨w, x4⟩, hw⟩ : ∃ z, pLoad k2.Machine (16 * s.Page + o) = z := ⟨_, rfl⟩
        have hA := fn_LdR k.Machine (16 * s.Page + o) v x3 hs.m (by omega) hv
        have hs2 := szK8_ok hk2
        have hB := fn_LdI S k2.Machine (16 * s.Page + o) w x4 hs2.m ⟨by omega, by omega⟩ hw
        have hCl := fn_ClrI t S k2 s q true hs2 ⟨fun _ => hclr, fun _ => rfl⟩
        have hun : Bm.has (Bm.unset s.Bits q) q = false := unset_has hbb.1 (by omega)
        have hub : Bm.unset s.Bits q ≤ 65535 := by
          unfold Bm.unset
          split
          · have := clr_le s.Bits.toNat q.toNat; omega
          · omega
        have htd := tdiv_bd hob.1 hcz.1
        have hor : (bif o.tdiv (Cl.csz s.Class) == q then true else v == w) = true := by
          by_cases hin : q * Cl.csz s.Class ≤ o ∧ o < q * Cl.csz s.Class + Cl.csz s.Class
          · have : o.tdiv (Cl.csz s.Class) = q := by
              rw [Int.tdiv_eq_ediv_of_nonneg hob.1]
              rcases hcl with h | h | h | h <;> rw [h] at hin ⊢
              · have e : Cl.csz 0 = 1 := rfl; rw [e] at hin ⊢; omega
              · have e : Cl.csz 1 = 2 := rfl; rw [e] at hin ⊢; omega
              · have e : Cl.csz 2 = 4 := rfl; rw [e] at hin ⊢; omega
              · have e : Cl.csz 3 = 8 := rfl; rw [e] at hin ⊢; omega
            rw [this, beq_self_eq_true]; rfl
          · have h5 := hfc o (by omega)
            rw [if_neg hin, show s.Page * 16 + o = 16 * s.Page + o by omega, hv, hw] at h5
            rw [(Prod.mk.inj h5).1, beq_self_eq_true]
            cases (o.tdiv (Cl.csz s.Class) == q) <;> rfl
        clear hfc hclr
        refine fn_intro tt_ok Tryz.func3 rfl Tryz.call3 Tryz.ntmps3 Tryz.results3 rfl rfl rfl rfl ?_
        intro X ρ0 hb_ hgl_
        dsimp only [c_LFrees]
        try refine nrm ?_
        repeat' (refine ar_id ?_; first | refine st1 ?_ | (first | ((first | refine ar_region (id := 1) tt_ok (inps := [.call (c_big bs)]) rfl ?_ ?_ | refine ar_region (id := 3) tt_ok (inps := [.call (c_Pages16 bs k ss)]) rfl ?_ ?_ | refine ar_region (id := 4) tt_ok (inps := [.call (c_Places bs)]) rfl ?_ ?_ | refine ar_region (id := 8) tt_ok (inps := [.elem (eI p0), .elem (eSpan s)]) rfl ?_ ?_ | refine ar_draw (id := 9) (inps := [.elem (eI p1), .call (c_SlotsS s.Class)]) tt_ok (by kernel_rfl) rfl rfl (by kernel_rfl) rfl rfl rfl rfl ?_ ?_ | refine ar_region (id := 10) tt_ok (inps := [.call (c_FrI t k s q k2 ⟨s.Page, s.Class, Bm.unset s.Bits q⟩ 0)]) rfl ?_ ?_ | refine ar_region (id := 11) tt_ok (inps := [.call (c_HasS s.Bits q)]) rfl ?_ ?_ | refine ar_region (id := 13) tt_ok (inps := [.call (⟨11, [.agg [ro 47 2 eEntry k.Machine.Table.Entries], (SV.one (.lit (.int .i64 (s.Page))))], [], .sv (.agg [(CV.lit (.int .i64 (E.Mode))), (CV.lit (.int .i64 (E.Frame)))]), [], [], []⟩)]) rfl ?_ ?_ | refine ar_region (id := 15) tt_ok (inps := [.elem (eI p2)]) rfl ?_ ?_ | refine ar_region (id := 16) tt_ok (inps := [.call (c_LdR k.Machine (16 * s.Page + o) v x3)]) rfl ?_ ?_ | refine ar_region (id := 17) tt_ok (inps := [.call (c_LdI S k2.Machine (16 * s.Page + o) w x4)]) rfl ?_ ?_ | refine ar_region (id := 18) tt_ok (inps := [.call (c_HasS (Bm.unset s.Bits q) q), .call (c_ClrI t S k2 s q true), .call (c_CszS s.Class)]) rfl ?_ ?_ | refine ar_region tt_ok (inps := []) rfl ?_ ?_); rotate_left; (try dsimp only [c_ClrI, c_CszS, c_FrI, c_HasS, c_LdI, c_LdR, c_Pages16, c_Places, c_SlotsS, c_big]); (try refine nrm ?_); rotate_right) | refine ret3 ?_ | refine end3 ?_) | (refine ar_cond rfl trivial ?_ ?_ <;> intro hc_ <;> (try simp only [isNilI, inB, reduceCtorEq, cds] at hc_) <;> (try (first | contradiction | (exfalso; omega) | (exfalso; grind)))) | refine ar_until (And.intro ?_ (wk3 ?_)))
        all_goals (first | refine ar_id ?_ | (try (focus ((try refine nrmO ?_); (repeat' (first | exact True.intro | refine And.intro ?_ ?_)); all_goals (try (intro (hg_ : _ = true); (try simp only [isNilI, inB, reduceCtorEq, cds] at hg_); (repeat' (first | exact True.intro | refine And.intro ?_ ?_)))); all_goals (first | exact ob1 | exact fn_big bs | exact hD | exact fn_Places bs hl' hb | exact e0 | exact hel' | exact e1 | exact e2 | exact fn_SlotsS _ | exact hF | exact fn_HasS _ _ (by omega) | exact hm1 | exact hP | exact hA | exact hB | exact hCl | exact fn_CszS _ | exact i64_ok (by omega) (by omega) | exact i64_ok (by rw [ho]; omega) (by rw [ho]; omega) | exact hgl_.2.2 | exact hgl_.1 | exact hgl_.2.1 | exact hgl_.2.2.1 | exact hgl_.2.2.2.1 | exact hgl_.2.2.2.2.1 | exact hgl_.2.2.2.2.2.1 | exact hgl_.2.2.2.2.2.2.1 | exact hgl_.2.2.2.2.2.2.2.1 | exact hgl_ | exact rfl | exact one1 rfl | skip)))))
        all_goals first | (rw [ho, hq, hun]; exact congrArg Value.bool hor) | trace_state
end Eng
end Go.Proofs.YtgeakpeodhhffaaGreatDoor
namespace Go.Proofs.YtgeakpeodhhffaaGreatDoor
open Go.RowKit Go.ChangeShapes
namespace LaidS
/-- a list that opens with sentinels: their pointers, all different, and the blocks that hold them -/
theorem vars {P : Program} {nm : String} {W : World} {ti tp te ts : TypeId} {ms : Array (String × TypeId)} {f : Field}
    (hi : P.underlying ti = some (.interface ms)) (hrow : ∀ u, P.typeName? 3 u = some nm → u = tp)
    (hp : P.underlying tp = some (.pointer te)) (he : P.underlying te = some (.struct #[f])) (hft : f.type = ts) (hfo : f.offset = 0) (hs : P.underlying ts = some .string) (hc : P.cellsOf te = 1) (hcs : P.cellsOf ts = 1) :
    ∀ (L : List (String × List UInt8 × Nat)) (r : List (String × DataW Unit)) (ps : List MemPlace), DataW.LaidVars P W (L.map (fun x => (x.1, .iface nm (.ptr (.agg [.lit (.string x.2.1)])))) ++ r) ps → ps.Nodup →
      (∀ b off, MemPlace.cell b off ∈ ps → (∃ c t, W.heap[b]? = some (.cells c t (0, 0))) ∧ ∀ u v, W.cell? ⟨b, off, none⟩ = some (.iface u v) → Value.okWide P W .any 0 u v) →
      (∀ x ∈ L, P.globalNamed x.1 = some x.2.2 ∧ (P.globals[x.2.2]?).map (·.type) = some ti) →
      ∃ as0 : List Addr, as0.length = L.length ∧ as0.Nodup ∧ (∀ a ∈ as0, MemPlace.cell a.block a.off ∈ ps) ∧
        ∀ (i : Nat) x a, L[i]? = some x → as0[i]? = some a → (∃ ty, W.heap[x.2.2]? = some (.cells #[.iface tp (.pointer (some a))] ty (0, 0))) ∧ ∃ c t, W.heap[a.block]? = some (.cells c t (0, 0))
  | [], _, _, _, _, _, _ => ⟨[], rfl, List.nodup_nil, fun _ h => (by cases h), fun i x a h => by simp at h⟩
  | (n, text, g) :: L, r, ps, hv, hnd, hrows, hg => by
    obtain ⟨g0, t0, cs0, f0, p0, q0, hg0, ht0, hv0, hd0, hq0, e0⟩ := hv
    obtain ⟨hg1, ht1⟩ := hg (n, text, g) (by simp)
    obtain rfl := Option.some.inj (hg1.symm.trans hg0)
    obtain rfl := Option.some.inj (ht1.symm.trans ht0)
    subst e0
    obtain ⟨l0⟩ := cs0
    have ok0 : ∀ u v, l0 = [.iface u v] → Value.okWide P W .any 0 u v := fun u v e => by
      subst e
      exact (hrows g 0 (by simp [MemPlace.row])).2 u v (by simpa using World.var?_cell hg0 hv0 0)
    obtain ⟨a0, s0, rfl, hc0, _, _, rfl⟩ := errorString_of_trod hi hrow hp he hft hfo hs hc hcs hd0 ok0
    have hr0 : MemPlace.row a0 1 = [MemPlace.cell a0.block a0.off] := by simp [MemPlace.row]
    rw [hr0] at hnd hrows
    rw [List.nodup_append] at hnd
    obtain ⟨_, hnd2, hnd3⟩ := hnd
    obtain ⟨as0, h1, h2, h3, h4⟩ := vars hi hrow hp he hft hfo hs hc hcs L r q0 hq0 hnd2 (fun b off hm => hrows b off (List.mem_append_right _ hm)) (fun x hx => hg x (by simp [hx]))
    refine ⟨a0 :: as0, by simp [h1], ?_, ?_, ?_⟩
    · rw [List.nodup_cons]
      exact ⟨fun hm => hnd3 _ (by simp) _ (h3 a0 hm) rfl, h2⟩
    · intro a ha
      rw [List.mem_cons] at ha
      rcases ha with rfl | ha
      · rw [hr0]; simp
      · exact List.mem_append_right _ (h3 a ha)
    · intro i x a hx ha
      cases i with
      | zero =>
        simp at hx ha
        subst hx ha
        refine ⟨?_, (hrows a0.block a0.off (by simp)).1⟩
        obtain ⟨c, t, hb⟩ := (hrows g 0 (by simp [MemPlace.row])).1
        have : c = #[.iface tp (.pointer (some a0))] := by
          have hv1 := hv0
          unfold World.var? at hv1
          rw [hg0, Option.bind_some, hb] at hv1
          exact Option.some.inj hv1
        exact ⟨t, this ▸ hb⟩
      | succ i => exact h4 i x a (by simpa using hx) (by simpa using ha)
/-- the sentinels that the variables' blocks gs hold -/
def At (tp : TypeId) (gs : List Nat) (w : World) : Prop :=
  ∃ as0 : List Addr, as0.length = gs.length ∧ as0.Nodup ∧ ∀ (i : Nat) g a, gs[i]? = some g → as0[i]? = some a → (∃ ty, w.heap[g]? = some (.cells #[.iface tp (.pointer (some a))] ty (0, 0))) ∧ ∃ c t, w.heap[a.block]? = some (.cells c t (0, 0))
theorem lt_of {w : World} {g : Nat} {o : Obj} (h : w.heap[g]? = some o) : g < w.heap.size := by
  rcases Nat.lt_or_ge g w.heap.size with h1 | h1
  · exact h1
  · rw [Array.getElem?_eq_none h1] at h; cases h
theorem At.head {tp : TypeId} {g : Nat} {gs : List Nat} {w : World} (h : At tp (g :: gs) w) : At tp [g] w := by
  obtain ⟨as0, h1, h2, h3⟩ := h
  match as0, h1 with
  | a :: as0, _ =>
    refine ⟨[a], rfl, by simp, fun i g' a' hg ha => ?_⟩
    cases i with
    | zero => exact h3 0 g' a' (by simpa using hg) (by simpa using ha)
    | succ i => simp at hg
theorem at_of {P : Program} {nm : String} {W : World} {ti tp te ts : TypeId} {ms : Array (String × TypeId)} {f : Field} {L : List (String × List UInt8 × Nat)} {r : List (String × DataW Unit)}
    (h : laidMet P (L.map (fun x => (x.1, .iface nm (.ptr (.agg [.lit (.string x.2.1)])))) ++ r) W)
    (hi : P.underlying ti = some (.interface ms)) (hrow : ∀ u, P.typeName? 3 u = some nm → u = tp)
    (hp : P.underlying tp = some (.pointer te)) (he : P.underlying te = some (.struct #[f])) (hft : f.type = ts) (hfo : f.offset = 0) (hs : P.underlying ts = some .string) (hc : P.cellsOf te = 1) (hcs : P.cellsOf ts = 1)
    (hg : ∀ x ∈ L, P.globalNamed x.1 = some x.2.2 ∧ (P.globals[x.2.2]?).map (·.type) = some ti) : At tp (L.map (·.2.2)) W := by
  obtain ⟨ps, hv, hnd, hrows⟩ := h
  obtain ⟨as0, h1, h2, _, h4⟩ := vars hi hrow hp he hft hfo hs hc hcs L r ps hv hnd hrows hg
  refine ⟨as0, by simpa using h1, h2, fun i g a hgi ha => ?_⟩
  rw [List.getElem?_map] at hgi
  obtain ⟨x, hx, rfl⟩ := Option.map_eq_some_iff.1 hgi
  exact h4 i x a hx ha
end LaidS
end Go.Proofs.YtgeakpeodhhffaaGreatDoor
namespace Go.Proofs.YtgeakpeodhhffaaGreatDoor
open Go.RowKit
set_option linter.unusedVariables false
set_option maxRecDepth 100000
namespace Eng
open Tr
theorem gl_at {w : World} {g : Nat} {cs : List Value} {T : Nat} (h : w.heap[g]? = some (.cells cs.toArray T (0, 0))) : GlX (cxOf w) ⟨g, cs, T, (0, 0)⟩ := ⟨h, LaidS.lt_of h, fun h => h⟩
theorem gl_arr {w : World} {g : Nat} {c : Array Value} {T : Nat} (h : w.heap[g]? = some (.cells c T (0, 0))) : GlX (cxOf w) ⟨g, c.toList, T, (0, 0)⟩ := gl_at (by rw [Array.toArray_toList]; exact h)
theorem se3 {w : World} (h : LaidS.At 196 [0, 1, 2] w) : ∃ s : Se, GlAll (GlX (cxOf w)) s.gl := by
  obtain ⟨xs, h1, h2, h3⟩ := h
  match xs, h1, h2 with
  | [a, b, c], _, h2 =>
    obtain ⟨⟨t1, k1⟩, c1, u1, l1⟩ := h3 0 _ a rfl rfl
    obtain ⟨⟨t2, k2⟩, c2, u2, l2⟩ := h3 1 _ b rfl rfl
    obtain ⟨⟨t3, k3⟩, c3, u3, l3⟩ := h3 2 _ c rfl rfl
    simp only [List.nodup_cons, List.mem_cons, List.not_mem_nil, or_false, not_or] at h2
    exact ⟨⟨a, b, c, c1.toList, c2.toList, c3.toList, u1, u2, u3, t1, t2, t3, h2.1.1, h2.1.2, h2.2.1⟩, gl_at k1, gl_at k2, gl_at k3, gl_arr l1, gl_arr l2, gl_arr l3, trivial⟩
end Eng
end Go.Proofs.YtgeakpeodhhffaaGreatDoor
namespace Go.Proofs.YtgeakpeodhhffaaGreatDoor
open Go.RowKit
namespace Laid
def put (h : Array Obj) (g : Nat) (cs : Array Value) : Array Obj := h.modify g fun
  | .cells _ t frozen => .cells cs t frozen
  | o => o
noncomputable def world (os : Os) : World :=
  let w0 := World.holding Tryz.prog os ⟨#[.cells #[.string ⟨#[110, 111, 32, 112, 97, 103, 101, 32, 105, 115, 32, 109, 97, 112, 112, 101, 100, 32, 97, 116, 32, 116, 104, 101, 32, 97, 100, 100, 114, 101, 115, 115]⟩] 223, .cells #[.string ⟨#[116, 104, 101, 32, 112, 97, 103, 101, 32, 105, 115, 32, 109, 97, 112, 112, 101, 100, 32, 102, 111, 114, 32, 114, 101, 97, 100, 105, 110, 103, 32, 111, 110, 108, 121]⟩] 223, .cells #[.string ⟨#[116, 104, 101, 32, 118, 97, 108, 117, 101, 32, 105, 115, 32, 111, 117, 116, 32, 111, 102, 32, 114, 97, 110, 103, 101]⟩] 223], #[], []⟩
  let h0 := put w0.heap 4 #[.int .i64 1, .int .i64 2, .int .i64 4, .int .i64 8, .int .i64 16, .int .i64 32, .int .i64 64, .int .i64 128, .int .i64 256, .int .i64 512, .int .i64 1024, .int .i64 2048, .int .i64 4096, .int .i64 8192, .int .i64 16384, .int .i64 32768]
  let h1 := put h0 3 #[.int .i64 1, .int .i64 2, .int .i64 4, .int .i64 8]
  let h2 := put h1 0 #[.iface 196 (.pointer (some ⟨(World.settled Tryz.prog os).heap.size + 0, 0, none⟩))]
  let h3 := put h2 1 #[.iface 196 (.pointer (some ⟨(World.settled Tryz.prog os).heap.size + 1, 0, none⟩))]
  let h4 := put h3 2 #[.iface 196 (.pointer (some ⟨(World.settled Tryz.prog os).heap.size + 2, 0, none⟩))]
  { w0 with heap := h4 }
theorem laidOut : laidOutB Tryz.prog = true := by kernel_rfl
theorem vars_len {H : Type} {enc : TypeId × Value → H} {P : Program} {w : World} {sp : Nat → Bool} : ∀ {ns : List String} {gs : List (DataW H)} {ps : List MemPlace}, DataW.TrodVars enc P w sp ns gs ps → gs.length = ns.length
  | [], [], _, _ => rfl
  | [], _ :: _, _, h => h.elim
  | _ :: _, [], _, h => h.elim
  | _ :: _, _ :: _, _, h => by obtain ⟨_, _, _, _, _, _, _, _, _, _, h2, _⟩ := h; exact congrArg Nat.succ (vars_len h2)
theorem vars5 {H : Type} {enc : TypeId × Value → H} {P : Program} {w : World} {sp : Nat → Bool} {a b c d e : String} {gs : List (DataW H)} {ps : List MemPlace} (h : DataW.TrodVars enc P w sp [a, b, c, d, e] gs ps) : ∃ x y z u v, gs = [x, y, z, u, v] := by
  have e := vars_len h
  match gs, e with
  | [x, y, z, u, v], _ => exact ⟨x, y, z, u, v, rfl⟩
def tab_slotMasks : List Int := [1, 2, 4, 8, 16, 32, 64, 128, 256, 512, 1024, 2048, 4096, 8192, 16384, 32768]
theorem g_slotMasks : Tryz.prog.globalNamed "loop.example/g00978/impl.slotMasks" = some 4 := by kernel_rfl
theorem ty_slotMasks : (Tryz.prog.globals[4]?).map (·.type) = some 180 := by kernel_rfl
theorem arr_slotMasks : Tryz.prog.cellsOf 180 = 16 := by kernel_rfl
theorem el_slotMasks : Tryz.prog.cellsOf 3 = 1 := by kernel_rfl
theorem list_slotMasks {H : Type} : (Rows.laid_loop_example_g00978_impl_slotMasks : DataW H) = Lib.tabData .i64 tab_slotMasks := by kernel_rfl
def tab_classSizes : List Int := [1, 2, 4, 8]
theorem g_classSizes : Tryz.prog.globalNamed "loop.example/g00978/impl.classSizes" = some 3 := by kernel_rfl
theorem ty_classSizes : (Tryz.prog.globals[3]?).map (·.type) = some 144 := by kernel_rfl
theorem arr_classSizes : Tryz.prog.cellsOf 144 = 4 := by kernel_rfl
theorem el_classSizes : Tryz.prog.cellsOf 3 = 1 := by kernel_rfl
theorem list_classSizes {H : Type} : (Rows.laid_loop_example_g00978_impl_classSizes : DataW H) = Lib.tabData .i64 tab_classSizes := by kernel_rfl
theorem star : "*" ++ "errors.errorString" = "*errors.errorString" := by decide
theorem rowStar (u : TypeId) (h : Tryz.prog.typeName? 3 u = some "*errors.errorString") : u = 196 :=
  typeName_ptr_named (nm := "errors.errorString") (by rw [star]; kernel_rfl) (by kernel_rfl) (by decide) u (by rw [star]; exact h)
structure LSlotMasksClassSizesErrPageErrWriteErrValue (w : World) : Prop where
  slotMasks : Lib.TabIs Tryz.prog w "loop.example/g00978/impl.slotMasks" .i64 tab_slotMasks
  classSizes : Lib.TabIs Tryz.prog w "loop.example/g00978/impl.classSizes" .i64 tab_classSizes
  sents : LaidS.At 196 [0, 1, 2] w
theorem has_1 {W : World} (h : laidMetH Tryz.prog [("loop.example/g00978/impl.slotMasks", Rows.laid_loop_example_g00978_impl_slotMasks), ("loop.example/g00978/impl.classSizes", Rows.laid_loop_example_g00978_impl_classSizes), ("loop.example/g00978/impl.errPage", Rows.laid_loop_example_g00978_impl_errPage), ("loop.example/g00978/impl.errWrite", Rows.laid_loop_example_g00978_impl_errWrite), ("loop.example/g00978/impl.errValue", Rows.laid_loop_example_g00978_impl_errValue)] W) : LSlotMasksClassSizesErrPageErrWriteErrValue W := by
  have h' : laidMet Tryz.prog [("loop.example/g00978/impl.slotMasks", Rows.laid_loop_example_g00978_impl_slotMasks), ("loop.example/g00978/impl.classSizes", Rows.laid_loop_example_g00978_impl_classSizes), ("loop.example/g00978/impl.errPage", Rows.laid_loop_example_g00978_impl_errPage), ("loop.example/g00978/impl.errWrite", Rows.laid_loop_example_g00978_impl_errWrite), ("loop.example/g00978/impl.errValue", Rows.laid_loop_example_g00978_impl_errValue)] W := h
  have t_slotMasks := h'
  rw [list_slotMasks] at t_slotMasks
  have f_slotMasks := Lib.tabIs_of_head g_slotMasks ty_slotMasks Tryz.underlying180 Tryz.underlying3 el_slotMasks arr_slotMasks t_slotMasks
  have t_classSizes := h'.tail
  rw [list_classSizes] at t_classSizes
  have f_classSizes := Lib.tabIs_of_head g_classSizes ty_classSizes Tryz.underlying144 Tryz.underlying3 el_classSizes arr_classSizes t_classSizes
  have f_sents := LaidS.at_of (L := [("loop.example/g00978/impl.errPage", [110, 111, 32, 112, 97, 103, 101, 32, 105, 115, 32, 109, 97, 112, 112, 101, 100, 32, 97, 116, 32, 116, 104, 101, 32, 97, 100, 100, 114, 101, 115, 115], 0), ("loop.example/g00978/impl.errWrite", [116, 104, 101, 32, 112, 97, 103, 101, 32, 105, 115, 32, 109, 97, 112, 112, 101, 100, 32, 102, 111, 114, 32, 114, 101, 97, 100, 105, 110, 103, 32, 111, 110, 108, 121], 1), ("loop.example/g00978/impl.errValue", [116, 104, 101, 32, 118, 97, 108, 117, 101, 32, 105, 115, 32, 111, 117, 116, 32, 111, 102, 32, 114, 97, 110, 103, 101], 2)]) (r := []) h'.tail.tail Tryz.underlying95 rowStar Tryz.underlying196 Tryz.underlying223 rfl rfl Tryz.underlying9 (by kernel_rfl) (by kernel_rfl) (by intro x hx; simp only [List.mem_cons, List.not_mem_nil, or_false] at hx; rcases hx with rfl | rfl | rfl <;> exact ⟨by kernel_rfl, by kernel_rfl⟩)
  exact { slotMasks := f_slotMasks, classSizes := f_classSizes, sents := f_sents }
end Laid
end Go.Proofs.YtgeakpeodhhffaaGreatDoor

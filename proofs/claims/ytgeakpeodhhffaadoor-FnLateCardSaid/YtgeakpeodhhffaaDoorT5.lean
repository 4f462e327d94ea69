/- Lemmas for the proofs, part 5 of 5: a symbolic run of the program, and what it needs. -/
import Derived.Conc.PipeWords
import Derived.Conc.Quits
import Derived.WalkKit
import Derived.LaidEql
import Derived.Stop.Asserts
import Derived.RowKitTokens
import Derived.Conc.DeferLaws
import Derived.Stop.LaidErr
import Derived.Below
import Derived.Test.YtgeakpeodhhffaaDoorRows
import Derived.Deep.DeepHandedRow
import Derived.Lib.LaidTab
import Derived.WalkSmall
import Derived.ProofKit
import Derived.OpenVars
import Derived.Test.YtgeakpeodhhffaaDoorT4
namespace Go.Proofs.YtgeakpeodhhffaaDoor
open Go.RowKit
set_option linter.unusedVariables false
set_option linter.unusedSimpArgs false
set_option maxRecDepth 100000
namespace Eng
open Tr
def c_isMapped (md fr : Int) : CFD := ⟨85, [.agg [(CV.lit (.int .i64 (md))), (CV.lit (.int .i64 (fr)))]], [], (TV.sv (.one (.lit (.bool (md != 0))))), [], [], []⟩
theorem fn_isMapped (md fr : Int) : Fn Tryd.prog (c_isMapped md fr) := by
  refine fn_intro tt_ok Tryd.func85 rfl Tryd.call85 Tryd.ntmps85 Tryd.results85 rfl rfl rfl rfl ?_
  intro X ρ0 hb_ hgl_
  dsimp only [c_isMapped]
  try refine nrm ?_
  repeat' (refine ar_id ?_; first | refine st1 ?_ | (first | ((first | refine ar_region tt_ok (inps := []) rfl ?_ ?_); rotate_left; (try refine nrm ?_); rotate_right) | refine ret3 ?_ | refine end3 ?_) | (refine ar_cond rfl trivial ?_ ?_ <;> intro hc_ <;> (try simp only [isNilI, inB, reduceCtorEq, cds] at hc_) <;> (try (first | contradiction | (exfalso; omega)))) | refine ar_until (And.intro ?_ (wk3 ?_)))
  all_goals (first | refine ar_id ?_ | (try (focus ((try refine nrmO ?_); (repeat' (first | exact True.intro | refine And.intro ?_ ?_)); all_goals (try (intro (hg_ : _ = true); (try simp only [isNilI, inB, reduceCtorEq, cds] at hg_); (repeat' (first | exact True.intro | refine And.intro ?_ ?_)))); all_goals (first | exact ob1 | skip)))))
def okA (md fr : Int) : Prop := (md = 0 ∧ fr = 0) ∨ ((md = 1 ∨ md = 2) ∧ 0 ≤ fr)
instance (md fr : Int) : Decidable (okA md fr) := by unfold okA; infer_instance
def c_entryOk (md fr : Int) : CFD := ⟨109, [.agg [(CV.lit (.int .i64 (md))), (CV.lit (.int .i64 (fr)))]], [], (TV.sv (.one (.lit (.bool (decide (okA md fr)))))), [], [], []⟩
theorem fn_entryOk (md fr : Int) : Fn Tryd.prog (c_entryOk md fr) := by
  refine fn_intro tt_ok Tryd.func109 rfl Tryd.call109 Tryd.ntmps109 Tryd.results109 rfl rfl rfl rfl ?_
  intro X ρ0 hb_ hgl_
  dsimp only [c_entryOk]
  try refine nrm ?_
  repeat' (refine ar_id ?_; first | refine st1 ?_ | (first | ((first | refine ar_region (id := 1) tt_ok (inps := [.call (c_isMapped md fr)]) rfl ?_ ?_ | refine ar_region tt_ok (inps := []) rfl ?_ ?_); rotate_left; (try dsimp only [c_isMapped]); (try refine nrm ?_); rotate_right) | refine ret3 ?_ | refine end3 ?_) | (refine ar_cond rfl trivial ?_ ?_ <;> intro hc_ <;> (try simp only [isNilI, inB, reduceCtorEq, cds] at hc_) <;> (try (first | contradiction | (exfalso; omega)))) | refine ar_until (And.intro ?_ (wk3 ?_)))
  all_goals (first | refine ar_id ?_ | (try (focus ((try refine nrmO ?_); (repeat' (first | exact True.intro | refine And.intro ?_ ?_)); all_goals (try (intro (hg_ : _ = true); (try simp only [isNilI, inB, reduceCtorEq, cds] at hg_); (repeat' (first | exact True.intro | refine And.intro ?_ ?_)))); all_goals (first | exact ob1 | exact fn_isMapped _ _ | skip)))))
  · refine congrArg Value.bool ?_
    subst hc_
    by_cases h : fr = 0
    · subst h; rfl
    · simp [okA, h]
  · refine congrArg Value.bool ?_
    simp only [okA, cond_ite]
    rw [Bool.eq_iff_iff]
    split <;> split <;> simp_all <;> omega
def c_TableOkI (t : GTable) (frames : Int) : CFD := ⟨71, [.agg [ro 51 2 eEntry t.Entries], (SV.one (.lit (.int .i64 (frames))))], [], (TV.sv (.one (.lit (.bool (pTableOk t frames))))), [], [], []⟩
theorem fn_TableOkI (t : GTable) (frames : Int) (hl : t.Entries.length ≤ 1048576) : Fn Tryd.prog (c_TableOkI t frames) := by
  refine fn_intro tt_ok Tryd.func71 rfl Tryd.call71 Tryd.ntmps71 Tryd.results71 rfl rfl rfl rfl ?_
  intro X ρ0 hb_ hgl_
  dsimp only [c_TableOkI]
  try refine nrm ?_
  repeat' (refine ar_id ?_; first | refine st1 ?_ | (first | ((first | refine ar_region tt_ok (inps := []) rfl ?_ ?_); rotate_left; (try refine nrm ?_); rotate_right) | refine ret3 ?_ | refine end3 ?_) | (refine ar_cond rfl trivial ?_ ?_ <;> intro hc_ <;> (try simp only [isNilI, inB, reduceCtorEq, cds] at hc_) <;> (try (first | contradiction | (exfalso; omega)))) | refine ar_until (And.intro ?_ (wk3 ?_)))
  all_goals (first | refine ar_id ?_ | (try (focus ((try refine nrmO ?_); (repeat' (first | exact True.intro | refine And.intro ?_ ?_)); all_goals (try (intro (hg_ : _ = true); (try simp only [isNilI, inB, reduceCtorEq, cds] at hg_); (repeat' (first | exact True.intro | refine And.intro ?_ ?_)))); all_goals (first | exact ob1 | skip)))))
  · exact bf fun h => by have := h.2; omega
  have hlen := hc_
  refine ar_keep 1835095 (by dsimp only [keepS] <;> exact rfl) ?_
  refine ar_forM (t.Entries.length) (fun i => ∀ e ∈ t.Entries.take i, okE frames e) (fun i => [(20, (TV.sv (.one (.lit (.int .i64 (i))))))]) (fun i => []) ?_ ?_ ?_
  rotate_left
  · first | trivial | simp
  (dsimp only [rnCap, capSVs, Int.toNat_natCast, ro, Nat.reduceAdd, Nat.reduceMul, Nat.zero_add, List.map, putT, app, wrapG, gOb, argT, keys, slotOf, dropped, gAnd, wB, rnT, rnS, rnC, rnCs, rnSs, rnM, rnB, rnN, rn, lk, St.over, ded, delL, keepT, menT, menSs, menS, menCs, menC, hasN, resT, SV.cells]; refine wk3 ?_; (focus ((try refine nrmO ?_); (repeat' (first | exact True.intro | refine And.intro ?_ ?_)); all_goals (try (intro (hg_ : _ = true); (try simp only [isNilI, inB, reduceCtorEq, cds] at hg_); (repeat' (first | exact True.intro | refine And.intro ?_ ?_)))); all_goals (first | exact ob1 | exact rfl | skip))))
  rotate_right
  intro i hi_ hiI_
  dsimp only [rnCap, capSVs, Int.toNat_natCast, ro, Nat.reduceAdd, Nat.reduceMul, Nat.zero_add, List.map, putT, app, wrapG, gOb, argT, keys, slotOf, dropped, gAnd, wB, rnT, rnS, rnC, rnCs, rnSs, rnM, rnB, rnN, rn, lk, St.over, ded, delL, keepT, menT, menSs, menS, menCs, menC, hasN, resT, SV.cells]
  repeat' (refine ar_id ?_; first | refine st1 ?_ | (first | ((first | refine ar_region (id := 5) tt_ok (inps := [.elem (eEntry (t.Entries.getD i ⟨0, 0⟩))]) rfl ?_ ?_ | refine ar_region (id := 6) tt_ok (inps := [.call (c_entryOk (t.Entries.getD i ⟨0, 0⟩).Mode (t.Entries.getD i ⟨0, 0⟩).Frame), .call (c_isMapped (t.Entries.getD i ⟨0, 0⟩).Mode (t.Entries.getD i ⟨0, 0⟩).Frame)]) rfl ?_ ?_ | refine ar_region tt_ok (inps := []) rfl ?_ ?_); rotate_left; (try dsimp only [c_entryOk, c_isMapped]); (try refine nrm ?_); rotate_right) | refine ret3 ?_ | refine end3 ?_) | (refine ar_cond rfl trivial ?_ ?_ <;> intro hc_ <;> (try simp only [isNilI, inB, reduceCtorEq, cds] at hc_) <;> (try (first | contradiction | (exfalso; omega)))) | refine ar_until (And.intro ?_ (wk3 ?_)))
  all_goals (first | refine ar_id ?_ | (try (focus ((try refine nrmO ?_); (repeat' (first | exact True.intro | refine And.intro ?_ ?_)); all_goals (try (intro (hg_ : _ = true); (try simp only [isNilI, inB, reduceCtorEq, cds] at hg_); (repeat' (first | exact True.intro | refine And.intro ?_ ?_)))); all_goals (first | exact ob1 | exact fn_entryOk _ _ | exact fn_isMapped _ _ | skip)))))
  · refine bf fun h => ?_
    have := h.1 _ (getD_in (l := t.Entries) (i := i) (d := ⟨0, 0⟩) (by omega))
    unfold okE at this
    unfold okA at hc_
    omega
  · refine all_take (d := ⟨0, 0⟩) hiI_ (by omega) ?_
    unfold okE
    unfold okA at hc_
    omega
  · exact bt ⟨all_full hiI_ (by omega), by omega, by omega⟩
def c_pageExists (t : GTable) (page : Int) : CFD := ⟨118, [.agg [ro 51 2 eEntry t.Entries], (SV.one (.lit (.int .i64 (page))))], [], (TV.sv (.one (.lit (.bool (decide (0 ≤ page ∧ page < (t.Entries.length : Int))))))), [], [], []⟩
theorem fn_pageExists (t : GTable) (page : Int) (hl : t.Entries.length ≤ 1048576) : Fn Tryd.prog (c_pageExists t page) := by
  refine fn_intro tt_ok Tryd.func118 rfl Tryd.call118 Tryd.ntmps118 Tryd.results118 rfl rfl rfl rfl ?_
  intro X ρ0 hb_ hgl_
  dsimp only [c_pageExists]
  try refine nrm ?_
  repeat' (refine ar_id ?_; first | refine st1 ?_ | (first | ((first | refine ar_region tt_ok (inps := []) rfl ?_ ?_); rotate_left; (try refine nrm ?_); rotate_right) | refine ret3 ?_ | refine end3 ?_) | (refine ar_cond rfl trivial ?_ ?_ <;> intro hc_ <;> (try simp only [isNilI, inB, reduceCtorEq, cds] at hc_) <;> (try (first | contradiction | (exfalso; omega)))) | refine ar_until (And.intro ?_ (wk3 ?_)))
  all_goals (first | refine ar_id ?_ | (try (focus ((try refine nrmO ?_); (repeat' (first | exact True.intro | refine And.intro ?_ ?_)); all_goals (try (intro (hg_ : _ = true); (try simp only [isNilI, inB, reduceCtorEq, cds] at hg_); (repeat' (first | exact True.intro | refine And.intro ?_ ?_)))); all_goals (first | exact ob1 | skip)))))
  refine congrArg Value.bool ?_
  rw [cond_ite, Bool.eq_iff_iff]
  split <;> simp_all <;> omega
def c_PageEntryI (t : GTable) (page : Int) : CFD := ⟨82, [.agg [ro 51 2 eEntry t.Entries], (SV.one (.lit (.int .i64 (page))))], [], .sv (.agg [(CV.lit (.int .i64 ((pPageEntry t page).Mode))), (CV.lit (.int .i64 ((pPageEntry t page).Frame)))]), [], [], []⟩
theorem fn_PageEntryI (t : GTable) (page : Int) (hl : t.Entries.length ≤ 1048576) : Fn Tryd.prog (c_PageEntryI t page) := by
  refine fn_intro tt_ok Tryd.func82 rfl Tryd.call82 Tryd.ntmps82 Tryd.results82 rfl rfl rfl rfl ?_
  intro X ρ0 hb_ hgl_
  dsimp only [c_PageEntryI]
  try refine nrm ?_
  repeat' (refine ar_id ?_; first | refine st1 ?_ | (first | ((first | refine ar_region (id := 1) tt_ok (inps := [.call (c_pageExists t page)]) rfl ?_ ?_ | refine ar_region (id := 3) tt_ok (inps := [.elem (eEntry (t.Entries.getD page.toNat ⟨0, 0⟩))]) rfl ?_ ?_ | refine ar_region tt_ok (inps := []) rfl ?_ ?_); rotate_left; (try dsimp only [c_pageExists]); (try refine nrm ?_); rotate_right) | refine ret3 ?_ | refine end3 ?_) | (refine ar_cond rfl trivial ?_ ?_ <;> intro hc_ <;> (try simp only [isNilI, inB, reduceCtorEq, cds] at hc_) <;> (try (first | contradiction | (exfalso; omega)))) | refine ar_until (And.intro ?_ (wk3 ?_)))
  all_goals (first | refine ar_id ?_ | (try (focus ((try refine nrmO ?_); (repeat' (first | exact True.intro | refine And.intro ?_ ?_)); all_goals (try (intro (hg_ : _ = true); (try simp only [isNilI, inB, reduceCtorEq, cds] at hg_); (repeat' (first | exact True.intro | refine And.intro ?_ ?_)))); all_goals (first | exact ob1 | exact fn_pageExists _ _ hl | skip)))))
  all_goals unfold pPageEntry
  · rw [if_neg hc_]
  · rw [if_neg hc_]
  · rw [if_pos hc_]
  · rw [if_pos hc_]
end Eng
end Go.Proofs.YtgeakpeodhhffaaDoor
namespace Go.Proofs.YtgeakpeodhhffaaDoor
open Go Go.Conc
set_option linter.unusedVariables false
set_option linter.unusedSimpArgs false
namespace Co
def EvR (e : Event) : Prop := (∀ m, e.loc = .mark m → Neutral m) ∧ e.write = false
/-- a step that leaves the world as0 it is -/
def DQ (w w' : World) (es : Array Event) : Prop := w' = w ∧ ∀ e ∈ es, EvR e
/-- at the return -/
def Leave (P : Program) (f : FuncId) (v : Value) (cs : List Frame) (g : Goroutine) (_ : World) : Prop :=
  ∃ fr fn, g = G fr cs ∧ fr.fn = f ∧ fr.mode = .returning ∧ fr.defers = [] ∧ fr.kind = .normal ∧ P.funcs[f]? = some fn ∧ ∀ w₁, (results fn fr.tmps).run P w₁ = .ok v w₁
/-- the function, alone or in company -/
def StillG (P : Program) (f : FuncId) (args : Array Value) (S : World → Prop) (v : Value) : Prop := ∀ cs w, ∃ n, Goes P true (fun _ w₁ => S w₁) DQ (Leave P f v cs) n (G (Frame.enter P f args .normal) cs) w
end Co
end Go.Proofs.YtgeakpeodhhffaaDoor
namespace Go.Proofs.YtgeakpeodhhffaaDoor
open Go.RowKit Go.Extern.Stop Go.Stop Go.Extern Go.Conc
set_option linter.unusedVariables false
set_option linter.unusedSimpArgs false
namespace Co
theorem noE {e : Event} {p : Prop} (h : e ∈ (#[] : Array Event)) : p := by simp at h
/-- it reads, or says which entry it has come to -/
def EvX (e : Event) : Prop := EvR e ∨ ∃ f, e.loc = .mark (.extern f)
def okX (e : Event) : Bool := match e.loc with | .mark (.extern _) => true | .mark _ => false | _ => !e.write
theorem evX_of {e : Event} (h : okX e = true) : EvX e := by
  unfold okX at h
  split at h
  · rename_i f hf; exact .inr ⟨f, hf⟩
  · cases h
  · rename_i h1 h2
    exact .inl ⟨fun m hm => absurd hm (h2 m), by simpa using h⟩
theorem evsX {es : Array Event} (h : es.all okX = true) : ∀ e ∈ es, EvX e := fun e he => evX_of (Array.all_eq_true'.1 h e he)
theorem seen_fold_ne (quiet : FuncId → Bool) : ∀ (l : List Event) (q : Bool) (kept : Array Event), (∀ e ∈ kept, ∀ f, e.loc ≠ .mark (.extern f)) → ∀ e ∈ (l.foldl (seenStep quiet) (q, kept)).2, ∀ f, e.loc ≠ .mark (.extern f) := by
  intro l
  induction l with
  | nil => exact fun _ _ h => h
  | cons a l ih =>
    intro q kept hk e h
    simp only [List.foldl_cons, seenStep] at h
    split at h
    · exact ih _ _ hk e h
    · rename_i hne
      refine ih _ _ ?_ e h
      split
      · exact hk
      · intro e he
        rcases Array.mem_push.1 he with h | rfl
        · exact hk e h
        · exact fun f hf => hne f hf
theorem listed_R {P : Program} {fn : FuncId} {a : Act} {o : Oper} {w : World} (h : ∀ e ∈ (execOp a.eval o).events P w #[], EvX e) : ∀ e ∈ listed P fn a o w, EvR e := by
  intro e he
  rcases h e (mem_listed he) with h | ⟨f, hf⟩
  · exact h
  · unfold listed at he
    rw [seen_def] at he
    exact absurd hf (seen_fold_ne _ _ _ #[] (by simp) e he f)
section
variable {P : Program} {S : World → Prop} {Stop : Goroutine → World → Prop} {n : Nat} {b : Frame} {a a' : Act} {k : List Item} {cs : List Frame} {ops : Array Oper} {i : Nat} {rest : List Nat} {o : Oper} {w : World} {v : Value}
theorem op_q (ho : ops[i]? = some o) (hw : Region.wanted o (yielded ops a.tmps) = true) (hk : b.kind ≠ .early) (hr : ∀ w₁, S w₁ → (execOp a.eval o).run P w₁ = .ok (.value v) w₁) (he : ∀ w₁, S w₁ → ∀ e ∈ (execOp a.eval o).events P w₁ #[], EvX e) (ha : a.put o.dst v = a')
    (h : ∀ w₁, Goes P true (fun _ w₁ => S w₁) DQ Stop n (G (b.at a' (.inRegion ops rest :: k)) cs) w₁) : Goes P true (fun _ w₁ => S w₁) DQ Stop (n + 1) (G (b.at a (.inRegion ops (i :: rest) :: k)) cs) w := by
  subst ha
  refine Goes.step rfl fun w₁ h₁ => ?_
  rw [stepG_value ho hw hk (hr w₁ h₁)]
  exact ⟨⟨rfl, listed_R (he w₁ h₁)⟩, h w₁⟩
theorem enter_q {f : FuncId} {args : Array Value} (ho : ops[i]? = some o) (hw : Region.wanted o (yielded ops a.tmps) = true) (hk : b.kind ≠ .early) (hr : ∀ w₁, S w₁ → (execOp a.eval o).run P w₁ = .ok (.enter f args) w₁) (he : ∀ w₁, S w₁ → ∀ e ∈ (execOp a.eval o).events P w₁ #[], EvX e)
    (h : ∀ w₁, Goes P true (fun _ w₁ => S w₁) DQ Stop n (G (Frame.enter P f args .normal) (b.at a (.inRegion ops (i :: rest) :: k) :: cs)) w₁) : Goes P true (fun _ w₁ => S w₁) DQ Stop (n + 1) (G (b.at a (.inRegion ops (i :: rest) :: k)) cs) w := by
  refine Goes.step rfl fun w₁ h₁ => ?_
  rw [stepG_enter ho hw hk (hr w₁ h₁)]
  exact ⟨⟨rfl, listed_R (he w₁ h₁)⟩, h w₁⟩
theorem ret_q (h : ∀ todo w₁, Goes P true (fun _ w₁ => S w₁) DQ Stop n (G { b.at a todo with mode := .returning } cs) w₁) : Goes P true (fun _ w₁ => S w₁) DQ Stop (n + 1) (G (b.at a (.code .ret :: k)) cs) w := by
  refine Goes.step rfl fun w₁ h₁ => ?_
  rw [stepG_ret']
  exact ⟨⟨rfl, by simp⟩, h _ w₁⟩
theorem leave_q {b₀ : Frame} {a₀ : Act} {fn : Func} {todo : List Item} (hn : b.kind = .normal) (hd : a.defers = []) (hf : P.funcs[b.fn]? = some fn) (hr : ∀ w₁, (results fn a.tmps).run P w₁ = .ok v w₁) (he : ∀ w₁, (results fn a.tmps).events P w₁ #[] = #[]) (ha : a₀.put ((ops[i]?).bind (·.dst)) v = a')
    (h : ∀ w₁, Goes P true (fun _ w₁ => S w₁) DQ Stop n (G (b₀.at a' (.inRegion ops rest :: k)) cs) w₁) : Goes P true (fun _ w₁ => S w₁) DQ Stop (n + 1) (G { b.at a todo with mode := .returning } (b₀.at a₀ (.inRegion ops (i :: rest) :: k) :: cs)) w := by
  subst ha
  refine Goes.step rfl fun w₁ h₁ => ?_
  rw [stepG_leave hn hd hf (hr w₁) (he w₁), Frame.finish_at]
  exact ⟨⟨rfl, by simp⟩, h w₁⟩
end
end Co
namespace IsG
open Co
theorem bin_run {P : Program} {s : Sem Value} {v : Value} {w : World} (h : s.run P w = .ok v w) : (do pure (.value (← s)) : Sem Next).run P w = .ok (.value v) w := by simp [Sem.run_bind, h]
theorem bin_ev {P : Program} {s : Sem Value} {w : World} (h : ∀ e ∈ s.events P w #[], EvX e) : ∀ e ∈ (do pure (.value (← s)) : Sem Next).events P w #[], EvX e := by
  have : (do pure (.value (← s)) : Sem Next).events P w #[] = s.events P w #[] := by
    rw [Sem.events_bind]
    cases s.run P w <;> rfl
  rw [this]; exact h
theorem lit22 (X Y : Value) : #[X, Y] ++ Array.replicate 20 undef = #[X, Y, undef, undef, undef, undef, undef, undef, undef, undef, undef, undef, undef, undef, undef, undef, undef, undef, undef, undef, undef, undef] := by
  apply Array.toList_inj.1
  simp [List.replicate]
theorem lit54 (X Y Z : Value) : #[X, Y, Z] ++ Array.replicate 51 undef = #[X, Y, Z, undef, undef, undef, undef, undef, undef, undef, undef, undef, undef, undef, undef, undef, undef, undef, undef, undef, undef, undef, undef, undef, undef, undef, undef, undef, undef, undef, undef, undef, undef, undef, undef, undef, undef, undef, undef, undef, undef, undef, undef, undef, undef, undef, undef, undef, undef, undef, undef, undef, undef, undef] := by
  apply Array.toList_inj.1
  simp [List.replicate]
theorem typeOf (v : Value) (w : World) : (Extern.ReflectliteType.typeOf #[.iface 188 v]).run Tryd.prog w = .ok (.iface 178 (.agg #[.pointer (some ⟨5, 188, none⟩)])) w := by kernel_rfl
theorem comparable (w : World) : (callFunc 164 #[.agg #[.pointer (some ⟨5, 188, none⟩)]]).run Tryd.prog w = .ok (.value (.bool true)) w := by kernel_rfl
set_option maxRecDepth 100000 in
set_option maxHeartbeats 2000000 in
theorem same (a : Addr) : StillG Tryd.prog 134 #[.iface 188 (.pointer (some a)), .iface 188 (.pointer (some a))] (fun _ => True) (.bool true) := by
  intro cs w
  obtain ⟨i, hi, hcmp⟩ := Option.map_eq_some_iff.1 (show (Tryd.prog.info? 188).map (·.comparable) = some true by kernel_rfl)
  obtain ⟨j, hj, hjs⟩ := Option.map_eq_some_iff.1 (show (Tryd.prog.info? 215).map (·.size) = some 1 by kernel_rfl)
  have h8 := @run_callFunc_extern Tryd.prog 143 _ Extern.ReflectliteType.typeOf Tryd.func143 (by kernel_rfl) (by kernel_rfl) (by kernel_rfl) (by kernel_rfl)
  have heq := fun w => run_eql_iface_ptr_same (P := Tryd.prog) w a Tryd.underlying141 Tryd.underlying188 hi hcmp hj
  have eqE : ∀ w₁ : World, ∀ e ∈ (binOp .eql 141 (Value.iface 188 (.pointer (some a))) (Value.iface 188 (.pointer (some a)))).events Tryd.prog w₁ #[], EvX e := fun w₁ e he => by
    have ht : Tame Tryd.prog (fun _ => False) (binOp .eql 141 (Value.iface 188 (.pointer (some a))) (Value.iface 188 (.pointer (some a)))) := tbinEql _ _ _ (by simp) (by simp) (by simp) (by simp)
    rcases (tame_run _ ht w₁ #[] (fun _ h => h.elim) _ _ (heq w₁)).1 e he with h | h
    · simp at h
    · refine .inl ⟨h.1, ?_⟩
      cases hw : e.write with
      | false => rfl
      | true => obtain ⟨_, _, hb⟩ := h.2 hw; exact hb.elim
  refine ⟨100, ?_⟩
  rw [show Frame.enter Tryd.prog 134 #[(Value.iface 188 (.pointer (some a))), (Value.iface 188 (.pointer (some a)))] .normal = (base 134).at ⟨#[(Value.iface 188 (.pointer (some a))), (Value.iface 188 (.pointer (some a))), undef, undef, undef, undef, undef, undef, undef, undef, undef, undef, undef, undef, undef, undef, undef, undef, undef, undef, undef, undef], []⟩ [.code (Tryd.f134.body.getD .skip)] from (enter_at #[(Value.iface 188 (.pointer (some a))), (Value.iface 188 (.pointer (some a)))] Tryd.func134 rfl).trans (by rw [← lit22]; rfl)]
  simp only [Tryd.f134, Option.getD_some]
  b_ctl
  b_ctl
  refine op_q (v := .bool false) (a' := ⟨#[(Value.iface 188 (.pointer (some a))), (Value.iface 188 (.pointer (some a))), undef, undef, .bool false, undef, undef, undef, undef, undef, undef, undef, undef, undef, undef, undef, undef, undef, undef, undef, undef, undef], []⟩) rfl rfl (by decide) (fun _ _ => rfl) (fun _ _ _ h => noE h) rfl (fun _ => ?_)
  b_ctl
  b_ctl
  b_ctl
  b_ctl
  refine op_q (v := (Value.iface 188 (.pointer (some a)))) (a' := ⟨#[(Value.iface 188 (.pointer (some a))), (Value.iface 188 (.pointer (some a))), undef, undef, .bool false, undef, (Value.iface 188 (.pointer (some a))), undef, undef, undef, undef, undef, undef, undef, undef, undef, undef, undef, undef, undef, undef, undef], []⟩) rfl rfl (by decide) (fun _ _ => rfl) (fun _ _ _ h => noE h) rfl (fun _ => ?_)
  refine op_q (v := .bool false) (a' := ⟨#[(Value.iface 188 (.pointer (some a))), (Value.iface 188 (.pointer (some a))), undef, undef, .bool false, undef, (Value.iface 188 (.pointer (some a))), .bool false, undef, undef, undef, undef, undef, undef, undef, undef, undef, undef, undef, undef, undef, undef], []⟩) rfl rfl (by decide) (fun w₁ _ => by kernel_rfl) (fun w₁ _ => evsX (by kernel_rfl)) rfl (fun _ => ?_)
  refine op_q (v := .bool false) (a' := ⟨#[(Value.iface 188 (.pointer (some a))), (Value.iface 188 (.pointer (some a))), undef, undef, .bool false, undef, (Value.iface 188 (.pointer (some a))), .bool false, .bool false, undef, undef, undef, undef, undef, undef, undef, undef, undef, undef, undef, undef, undef], []⟩) rfl rfl (by decide) (fun _ _ => rfl) (fun _ _ _ h => noE h) rfl (fun _ => ?_)
  refine op_q (v := (Value.iface 188 (.pointer (some a)))) (a' := ⟨#[(Value.iface 188 (.pointer (some a))), (Value.iface 188 (.pointer (some a))), undef, undef, .bool false, undef, (Value.iface 188 (.pointer (some a))), .bool false, .bool false, (Value.iface 188 (.pointer (some a))), undef, undef, undef, undef, undef, undef, undef, undef, undef, undef, undef, undef], []⟩) rfl rfl (by decide) (fun _ _ => rfl) (fun _ _ _ h => noE h) rfl (fun _ => ?_)
  refine op_q (v := .bool false) (a' := ⟨#[(Value.iface 188 (.pointer (some a))), (Value.iface 188 (.pointer (some a))), undef, undef, .bool false, undef, (Value.iface 188 (.pointer (some a))), .bool false, .bool false, (Value.iface 188 (.pointer (some a))), .bool false, undef, undef, undef, undef, undef, undef, undef, undef, undef, undef, undef], []⟩) rfl rfl (by decide) (fun w₁ _ => by kernel_rfl) (fun w₁ _ => evsX (by kernel_rfl)) rfl (fun _ => ?_)
  refine op_q (v := .bool false) (a' := ⟨#[(Value.iface 188 (.pointer (some a))), (Value.iface 188 (.pointer (some a))), undef, undef, .bool false, undef, (Value.iface 188 (.pointer (some a))), .bool false, .bool false, (Value.iface 188 (.pointer (some a))), .bool false, .bool false, undef, undef, undef, undef, undef, undef, undef, undef, undef, undef], []⟩) rfl rfl (by decide) (fun _ _ => rfl) (fun _ _ _ h => noE h) rfl (fun _ => ?_)
  b_ctl
  b_cond false
  b_ctl
  b_ctl
  b_ctl
  refine op_q (v := (Value.iface 188 (.pointer (some a)))) (a' := ⟨#[(Value.iface 188 (.pointer (some a))), (Value.iface 188 (.pointer (some a))), undef, undef, .bool false, undef, (Value.iface 188 (.pointer (some a))), .bool false, .bool false, (Value.iface 188 (.pointer (some a))), .bool false, .bool false, undef, undef, undef, (Value.iface 188 (.pointer (some a))), undef, undef, undef, undef, undef, undef], []⟩) rfl rfl (by decide) (fun _ _ => rfl) (fun _ _ _ h => noE h) rfl (fun _ => ?_)
  refine op_q (v := (Value.iface 178 (.agg #[.pointer (some ⟨5, 188, none⟩)]))) (a' := ⟨#[(Value.iface 188 (.pointer (some a))), (Value.iface 188 (.pointer (some a))), undef, undef, .bool false, undef, (Value.iface 188 (.pointer (some a))), .bool false, .bool false, (Value.iface 188 (.pointer (some a))), .bool false, .bool false, undef, undef, undef, (Value.iface 188 (.pointer (some a))), (Value.iface 178 (.agg #[.pointer (some ⟨5, 188, none⟩)])), undef, undef, undef, undef, undef], []⟩) rfl rfl (by decide) (fun w₁ _ => by kernel_rfl) (fun w₁ _ => evsX (by kernel_rfl)) rfl (fun _ => ?_)
  refine op_q (v := .bool true) (a' := ⟨#[(Value.iface 188 (.pointer (some a))), (Value.iface 188 (.pointer (some a))), undef, undef, .bool false, undef, (Value.iface 188 (.pointer (some a))), .bool false, .bool false, (Value.iface 188 (.pointer (some a))), .bool false, .bool false, undef, undef, undef, (Value.iface 188 (.pointer (some a))), (Value.iface 178 (.agg #[.pointer (some ⟨5, 188, none⟩)])), .bool true, undef, undef, undef, undef], []⟩) rfl rfl (by decide) (fun w₁ _ => by kernel_rfl) (fun w₁ _ => evsX (by kernel_rfl)) rfl (fun _ => ?_)
  refine op_q (v := .bool true) (a' := ⟨#[(Value.iface 188 (.pointer (some a))), (Value.iface 188 (.pointer (some a))), undef, undef, .bool false, .bool true, (Value.iface 188 (.pointer (some a))), .bool false, .bool false, (Value.iface 188 (.pointer (some a))), .bool false, .bool false, undef, undef, undef, (Value.iface 188 (.pointer (some a))), (Value.iface 178 (.agg #[.pointer (some ⟨5, 188, none⟩)])), .bool true, undef, undef, undef, undef], []⟩) rfl rfl (by decide) (fun _ _ => rfl) (fun _ _ _ h => noE h) rfl (fun _ => ?_)
  b_ctl
  b_ctl
  b_ctl
  refine op_q (v := (Value.iface 188 (.pointer (some a)))) (a' := ⟨#[(Value.iface 188 (.pointer (some a))), (Value.iface 188 (.pointer (some a))), undef, undef, .bool false, .bool true, (Value.iface 188 (.pointer (some a))), .bool false, .bool false, (Value.iface 188 (.pointer (some a))), .bool false, .bool false, undef, undef, undef, (Value.iface 188 (.pointer (some a))), (Value.iface 178 (.agg #[.pointer (some ⟨5, 188, none⟩)])), .bool true, (Value.iface 188 (.pointer (some a))), undef, undef, undef], []⟩) rfl rfl (by decide) (fun _ _ => rfl) (fun _ _ _ h => noE h) rfl (fun _ => ?_)
  refine op_q (v := (Value.iface 188 (.pointer (some a)))) (a' := ⟨#[(Value.iface 188 (.pointer (some a))), (Value.iface 188 (.pointer (some a))), undef, undef, .bool false, .bool true, (Value.iface 188 (.pointer (some a))), .bool false, .bool false, (Value.iface 188 (.pointer (some a))), .bool false, .bool false, undef, undef, undef, (Value.iface 188 (.pointer (some a))), (Value.iface 178 (.agg #[.pointer (some ⟨5, 188, none⟩)])), .bool true, (Value.iface 188 (.pointer (some a))), (Value.iface 188 (.pointer (some a))), undef, undef], []⟩) rfl rfl (by decide) (fun _ _ => rfl) (fun _ _ _ h => noE h) rfl (fun _ => ?_)
  refine op_q (v := .bool true) (a' := ⟨#[(Value.iface 188 (.pointer (some a))), (Value.iface 188 (.pointer (some a))), undef, undef, .bool false, .bool true, (Value.iface 188 (.pointer (some a))), .bool false, .bool false, (Value.iface 188 (.pointer (some a))), .bool false, .bool false, undef, undef, undef, (Value.iface 188 (.pointer (some a))), (Value.iface 178 (.agg #[.pointer (some ⟨5, 188, none⟩)])), .bool true, (Value.iface 188 (.pointer (some a))), (Value.iface 188 (.pointer (some a))), .bool true, undef], []⟩) rfl rfl (by decide) (fun _ _ => rfl) (fun _ _ _ h => noE h) rfl (fun _ => ?_)
  refine enter_q (f := 144) (args := #[(Value.iface 188 (.pointer (some a))), (Value.iface 188 (.pointer (some a))), .bool true]) rfl rfl (by decide) (fun w₁ _ => by kernel_rfl) (fun w₁ _ => evsX (by kernel_rfl)) (fun _ => ?_)
  rw [show Frame.enter Tryd.prog 144 #[(Value.iface 188 (.pointer (some a))), (Value.iface 188 (.pointer (some a))), .bool true] .normal = (base 144).at ⟨#[(Value.iface 188 (.pointer (some a))), (Value.iface 188 (.pointer (some a))), .bool true, undef, undef, undef, undef, undef, undef, undef, undef, undef, undef, undef, undef, undef, undef, undef, undef, undef, undef, undef, undef, undef, undef, undef, undef, undef, undef, undef, undef, undef, undef, undef, undef, undef, undef, undef, undef, undef, undef, undef, undef, undef, undef, undef, undef, undef, undef, undef, undef, undef, undef, undef], []⟩ [.code (Tryd.f144.body.getD .skip)] from (enter_at #[(Value.iface 188 (.pointer (some a))), (Value.iface 188 (.pointer (some a))), .bool true] Tryd.func144 rfl).trans (by rw [← lit54]; rfl)]
  simp only [Tryd.f144, Option.getD_some]
  b_ctl
  b_ctl
  refine op_q (v := .bool false) (a' := ⟨#[(Value.iface 188 (.pointer (some a))), (Value.iface 188 (.pointer (some a))), .bool true, undef, undef, undef, .bool false, undef, undef, undef, undef, undef, undef, undef, undef, undef, undef, undef, undef, undef, undef, undef, undef, undef, undef, undef, undef, undef, undef, undef, undef, undef, undef, undef, undef, undef, undef, undef, undef, undef, undef, undef, undef, undef, undef, undef, undef, undef, undef, undef, undef, undef, undef, undef], []⟩) rfl rfl (by decide) (fun _ _ => rfl) (fun _ _ _ h => noE h) rfl (fun _ => ?_)
  b_ctl
  b_ctl
  b_ctl
  b_ctl
  b_ctl
  b_ctl
  b_ctl
  refine op_q (v := .bool true) (a' := ⟨#[(Value.iface 188 (.pointer (some a))), (Value.iface 188 (.pointer (some a))), .bool true, undef, undef, undef, .bool false, undef, undef, undef, undef, undef, undef, undef, .bool true, undef, undef, undef, undef, undef, undef, undef, undef, undef, undef, undef, undef, undef, undef, undef, undef, undef, undef, undef, undef, undef, undef, undef, undef, undef, undef, undef, undef, undef, undef, undef, undef, undef, undef, undef, undef, undef, undef, undef], []⟩) rfl rfl (by decide) (fun _ _ => rfl) (fun _ _ _ h => noE h) rfl (fun _ => ?_)
  refine op_q (v := .bool true) (a' := ⟨#[(Value.iface 188 (.pointer (some a))), (Value.iface 188 (.pointer (some a))), .bool true, undef, undef, undef, .bool false, undef, undef, undef, undef, undef, undef, undef, .bool true, .bool true, undef, undef, undef, undef, undef, undef, undef, undef, undef, undef, undef, undef, undef, undef, undef, undef, undef, undef, undef, undef, undef, undef, undef, undef, undef, undef, undef, undef, undef, undef, undef, undef, undef, undef, undef, undef, undef, undef], []⟩) rfl rfl (by decide) (fun _ _ => rfl) (fun _ _ _ h => noE h) rfl (fun _ => ?_)
  refine op_q (v := (Value.iface 188 (.pointer (some a)))) (a' := ⟨#[(Value.iface 188 (.pointer (some a))), (Value.iface 188 (.pointer (some a))), .bool true, undef, undef, undef, .bool false, undef, undef, undef, undef, undef, undef, undef, .bool true, .bool true, (Value.iface 188 (.pointer (some a))), undef, undef, undef, undef, undef, undef, undef, undef, undef, undef, undef, undef, undef, undef, undef, undef, undef, undef, undef, undef, undef, undef, undef, undef, undef, undef, undef, undef, undef, undef, undef, undef, undef, undef, undef, undef, undef], []⟩) rfl rfl (by decide) (fun _ _ => rfl) (fun _ _ _ h => noE h) rfl (fun _ => ?_)
  refine op_q (v := (Value.iface 188 (.pointer (some a)))) (a' := ⟨#[(Value.iface 188 (.pointer (some a))), (Value.iface 188 (.pointer (some a))), .bool true, undef, undef, undef, .bool false, undef, undef, undef, undef, undef, undef, undef, .bool true, .bool true, (Value.iface 188 (.pointer (some a))), (Value.iface 188 (.pointer (some a))), undef, undef, undef, undef, undef, undef, undef, undef, undef, undef, undef, undef, undef, undef, undef, undef, undef, undef, undef, undef, undef, undef, undef, undef, undef, undef, undef, undef, undef, undef, undef, undef, undef, undef, undef, undef], []⟩) rfl rfl (by decide) (fun _ _ => rfl) (fun _ _ _ h => noE h) rfl (fun _ => ?_)
  refine op_q (v := .bool true) (a' := ⟨#[(Value.iface 188 (.pointer (some a))), (Value.iface 188 (.pointer (some a))), .bool true, undef, undef, undef, .bool false, undef, undef, undef, undef, undef, undef, undef, .bool true, .bool true, (Value.iface 188 (.pointer (some a))), (Value.iface 188 (.pointer (some a))), .bool true, undef, undef, undef, undef, undef, undef, undef, undef, undef, undef, undef, undef, undef, undef, undef, undef, undef, undef, undef, undef, undef, undef, undef, undef, undef, undef, undef, undef, undef, undef, undef, undef, undef, undef, undef], []⟩) rfl rfl (by decide) (fun w₁ _ => bin_run (s := binOp .eql 141 (Value.iface 188 (.pointer (some a))) (Value.iface 188 (.pointer (some a)))) (heq w₁)) (fun w₁ _ => bin_ev (s := binOp .eql 141 (Value.iface 188 (.pointer (some a))) (Value.iface 188 (.pointer (some a)))) (eqE w₁)) rfl (fun _ => ?_)
  refine op_q (v := .bool true) (a' := ⟨#[(Value.iface 188 (.pointer (some a))), (Value.iface 188 (.pointer (some a))), .bool true, undef, undef, undef, .bool false, undef, undef, undef, undef, undef, undef, undef, .bool true, .bool true, (Value.iface 188 (.pointer (some a))), (Value.iface 188 (.pointer (some a))), .bool true, .bool true, undef, undef, undef, undef, undef, undef, undef, undef, undef, undef, undef, undef, undef, undef, undef, undef, undef, undef, undef, undef, undef, undef, undef, undef, undef, undef, undef, undef, undef, undef, undef, undef, undef, undef], []⟩) rfl rfl (by decide) (fun _ _ => rfl) (fun _ _ _ h => noE h) rfl (fun _ => ?_)
  b_ctl
  b_cond true
  b_ctl
  b_ctl
  refine op_q (v := .bool true) (a' := ⟨#[(Value.iface 188 (.pointer (some a))), (Value.iface 188 (.pointer (some a))), .bool true, undef, undef, undef, .bool true, undef, undef, undef, undef, undef, undef, undef, .bool true, .bool true, (Value.iface 188 (.pointer (some a))), (Value.iface 188 (.pointer (some a))), .bool true, .bool true, undef, undef, undef, undef, undef, undef, undef, undef, undef, undef, undef, undef, undef, undef, undef, undef, undef, undef, undef, undef, undef, undef, undef, undef, undef, undef, undef, undef, undef, undef, undef, undef, undef, undef], []⟩) rfl rfl (by decide) (fun _ _ => rfl) (fun _ _ _ h => noE h) rfl (fun _ => ?_)
  b_ctl
  refine ret_q (fun _ _ => ?_)
  refine leave_q (v := .bool true) (a' := ⟨#[(Value.iface 188 (.pointer (some a))), (Value.iface 188 (.pointer (some a))), undef, undef, .bool false, .bool true, (Value.iface 188 (.pointer (some a))), .bool false, .bool false, (Value.iface 188 (.pointer (some a))), .bool false, .bool false, undef, undef, undef, (Value.iface 188 (.pointer (some a))), (Value.iface 178 (.agg #[.pointer (some ⟨5, 188, none⟩)])), .bool true, (Value.iface 188 (.pointer (some a))), (Value.iface 188 (.pointer (some a))), .bool true, .bool true], []⟩) rfl rfl Tryd.func144 (fun w₁ => results_tmp (t := 6) rfl _ Tryd.prog w₁) (fun w₁ => events_results_tmp (t := 6) rfl _ _) rfl (fun _ => ?_)
  refine op_q (v := .bool true) (a' := ⟨#[(Value.iface 188 (.pointer (some a))), (Value.iface 188 (.pointer (some a))), undef, undef, .bool true, .bool true, (Value.iface 188 (.pointer (some a))), .bool false, .bool false, (Value.iface 188 (.pointer (some a))), .bool false, .bool false, undef, undef, undef, (Value.iface 188 (.pointer (some a))), (Value.iface 178 (.agg #[.pointer (some ⟨5, 188, none⟩)])), .bool true, (Value.iface 188 (.pointer (some a))), (Value.iface 188 (.pointer (some a))), .bool true, .bool true], []⟩) rfl rfl (by decide) (fun _ _ => rfl) (fun _ _ _ h => noE h) rfl (fun _ => ?_)
  b_ctl
  refine ret_q (fun _ _ => ?_)
  exact Goes.stop fun _ _ => ⟨_, _, rfl, rfl, rfl, rfl, rfl, Tryd.func134, fun w₁ => results_tmp (t := 4) rfl _ Tryd.prog w₁⟩
end IsG
namespace Eng
open Tr
end Eng
end Go.Proofs.YtgeakpeodhhffaaDoor
namespace Go.Proofs.YtgeakpeodhhffaaDoor
open Go.RowKit
set_option linter.unusedVariables false
set_option linter.unusedSimpArgs false
set_option maxRecDepth 100000
namespace Eng
open Tr
/-- for each of n frames: a page is mapped to it -/
def fwL (l : List GEntry) (n : Nat) : List Bool := (List.range n).map fun i : Nat => decide (∃ e ∈ l, e.Mode ≠ 0 ∧ e.Frame = (i : Int))
theorem fwL_nil (n : Nat) : fwL [] n = List.replicate n false := by
  unfold fwL
  rw [List.eq_replicate_iff]
  simp
theorem fwL_len (l : List GEntry) (n : Nat) : (fwL l n).length = n := by simp [fwL]
theorem fwL_snoc (l : List GEntry) (e : GEntry) (n : Nat) : fwL (l ++ [e]) n = if e.Mode ≠ 0 ∧ 0 ≤ e.Frame then (fwL l n).set e.Frame.toNat true else fwL l n := by
  refine List.ext_getElem? fun i => ?_
  have h0 : ∀ (l : List GEntry), (fwL l n)[i]? = if i < n then some (decide (∃ e ∈ l, e.Mode ≠ 0 ∧ e.Frame = (i : Int))) else none := by
    intro l
    unfold fwL
    rw [List.getElem?_map]
    split
    · rw [List.getElem?_range (by assumption)]; rfl
    · rw [List.getElem?_eq_none (by simp; omega)]; rfl
  rw [h0]
  by_cases hi : i < n
  · rw [if_pos hi]
    by_cases he : e.Mode ≠ 0 ∧ 0 ≤ e.Frame
    · rw [if_pos he, List.getElem?_set, fwL_len]
      by_cases hf : e.Frame.toNat = i
      · rw [if_pos hf, if_pos (by omega), decide_eq_true ⟨e, by simp, he.1, by omega⟩]
      · rw [if_neg hf, h0, if_pos hi]
        congr 1
        rw [decide_eq_decide]
        constructor
        · rintro ⟨x, hx, h1, h2⟩
          rw [List.mem_append, List.mem_singleton] at hx
          rcases hx with hx | rfl
          · exact ⟨x, hx, h1, h2⟩
          · omega
        · rintro ⟨x, hx, h1, h2⟩; exact ⟨x, by simp [hx], h1, h2⟩
    · rw [if_neg he, h0, if_pos hi]
      congr 1
      rw [decide_eq_decide]
      constructor
      · rintro ⟨x, hx, h1, h2⟩
        rw [List.mem_append, List.mem_singleton] at hx
        rcases hx with hx | rfl
        · exact ⟨x, hx, h1, h2⟩
        · exact absurd ⟨h1, by omega⟩ he
      · rintro ⟨x, hx, h1, h2⟩; exact ⟨x, by simp [hx], h1, h2⟩
  · rw [if_neg hi]
    split
    · rw [List.getElem?_set, fwL_len, h0]
      split <;> (try split) <;> first | rfl | omega
    · rw [h0, if_neg hi]
def c_fwp (t : GTable) (n : Nat) : CFD := ⟨73, [.agg [ro 51 2 eEntry t.Entries], (SV.one (.lit (.int .i64 ((n : Int)))))], [], .sv (.one (.hd 0)), [(0, some (.row 4 1 ((fwL t.Entries n).map Tr.eB)))], [0], []⟩
theorem fn_fwp (t : GTable) (n : Nat) (hl : t.Entries.length ≤ 1048576) (hn : n ≤ 1048576) (hok : ∀ e ∈ t.Entries, okE n e) : Fn Tryd.prog (c_fwp t n) := by
  refine fn_intro tt_ok Tryd.func73 rfl Tryd.call73 Tryd.ntmps73 Tryd.results73 rfl rfl rfl rfl ?_
  intro X ρ0 hb_ hgl_
  dsimp only [c_fwp]
  try refine nrm ?_
  repeat' (refine ar_id ?_; first | refine st1 ?_ | (first | ((first | refine ar_region tt_ok (inps := []) rfl ?_ ?_); rotate_left; (try refine nrm ?_); rotate_right) | refine ret3 ?_ | refine end3 ?_) | (refine ar_cond rfl trivial ?_ ?_ <;> intro hc_ <;> (try simp only [isNilI, inB, reduceCtorEq, cds] at hc_) <;> (try (first | contradiction | (exfalso; omega)))) | refine ar_until (And.intro ?_ (wk3 ?_)))
  all_goals (first | refine ar_id ?_ | (try (focus ((try refine nrmO ?_); (repeat' (first | exact True.intro | refine And.intro ?_ ?_)); all_goals (try (intro (hg_ : _ = true); (try simp only [isNilI, inB, reduceCtorEq, cds] at hg_); (repeat' (first | exact True.intro | refine And.intro ?_ ?_)))); all_goals (first | exact ob1 | skip)))))
  refine ar_keep 14519 (by dsimp only [keepS] <;> exact rfl) ?_
  refine ar_forM (t.Entries.length) (fun i => True) (fun i => [(13, (TV.sv (.one (.lit (.int .i64 (i)))))), (5, (TV.sv (.one (.hd 9))))]) (fun i => [(9, some (.row 4 1 ((fwL (t.Entries.take i) n).map Tr.eB)))]) ?_ ?_ ?_
  rotate_left
  · first | trivial | simp
  (dsimp only [rnCap, capSVs, Int.toNat_natCast, ro, Nat.reduceAdd, Nat.reduceMul, Nat.zero_add, List.map, putT, app, wrapG, gOb, argT, keys, slotOf, dropped, gAnd, wB, rnT, rnS, rnC, rnCs, rnSs, rnM, rnB, rnN, rn, lk, St.over, ded, delL, keepT, menT, menSs, menS, menCs, menC, hasN, resT, SV.cells]; refine wk3 ?_; (focus ((try refine nrmO ?_); (repeat' (first | exact True.intro | refine And.intro ?_ ?_)); all_goals (try (intro (hg_ : _ = true); (try simp only [isNilI, inB, reduceCtorEq, cds] at hg_); (repeat' (first | exact True.intro | refine And.intro ?_ ?_)))); all_goals (first | exact ob1 | exact rfl | skip))))
  rotate_right
  intro i hi_ hiI_
  dsimp only [rnCap, capSVs, Int.toNat_natCast, ro, Nat.reduceAdd, Nat.reduceMul, Nat.zero_add, List.map, putT, app, wrapG, gOb, argT, keys, slotOf, dropped, gAnd, wB, rnT, rnS, rnC, rnCs, rnSs, rnM, rnB, rnN, rn, lk, St.over, ded, delL, keepT, menT, menSs, menS, menCs, menC, hasN, resT, SV.cells]
  repeat' (refine ar_id ?_; first | refine st1 ?_ | (first | ((first | refine ar_region (id := 4) tt_ok (inps := [.elem (eEntry (t.Entries.getD i ⟨0, 0⟩))]) rfl ?_ ?_ | refine ar_region (id := 5) tt_ok (inps := [.call (c_isMapped (t.Entries.getD i ⟨0, 0⟩).Mode (t.Entries.getD i ⟨0, 0⟩).Frame)]) rfl ?_ ?_ | refine ar_region (id := 6) tt_ok (inps := [.elem (Tr.eB ((fwL (t.Entries.take i) n).getD (t.Entries.getD i ⟨0, 0⟩).Frame.toNat false))]) rfl ?_ ?_ | refine ar_region tt_ok (inps := []) rfl ?_ ?_); rotate_left; (try dsimp only [c_isMapped]); (try refine nrm ?_); rotate_right) | refine ret3 ?_ | refine end3 ?_) | (refine ar_cond rfl trivial ?_ ?_ <;> intro hc_ <;> (try simp only [isNilI, inB, reduceCtorEq, cds] at hc_) <;> (try (first | contradiction | (exfalso; omega)))) | refine ar_until (And.intro ?_ (wk3 ?_)))
  all_goals (first | refine ar_id ?_ | (try (focus ((try refine nrmO ?_); (repeat' (first | exact True.intro | refine And.intro ?_ ?_)); all_goals (try (intro (hg_ : _ = true); (try simp only [isNilI, inB, reduceCtorEq, cds] at hg_); (repeat' (first | exact True.intro | refine And.intro ?_ ?_)))); all_goals (first | exact ob1 | exact fn_isMapped _ _ | skip)))))
  · have := hok _ (getD_in (l := t.Entries) (i := i) (d := ⟨0, 0⟩) (by omega)); unfold okE at this; omega
  · have := hok _ (getD_in (l := t.Entries) (i := i) (d := ⟨0, 0⟩) (by omega)); unfold okE at this; rw [List.length_map, fwL_len]; omega
  · have := hok _ (getD_in (l := t.Entries) (i := i) (d := ⟨0, 0⟩) (by omega)); unfold okE at this; exact map_at (by rw [fwL_len]; omega)
  · have := hok _ (getD_in (l := t.Entries) (i := i) (d := ⟨0, 0⟩) (by omega)); unfold okE at this
    rw [take_getD _ ⟨0, 0⟩ (by omega), fwL_snoc, if_pos ⟨hc_, by omega⟩]
    exact List.map_set.symm
  · rw [take_getD _ ⟨0, 0⟩ (by omega), fwL_snoc, if_neg (fun h => h.1 hc_)]
  · rw [List.take_of_length_le (by omega)]
  · rw [List.take_zero, fwL_nil, List.map_replicate]; rfl
def c_EqualB (a b : List Bool) : CFD := ⟨72, [.one (ro 4 1 Tr.eB a), .one (ro 4 1 Tr.eB b)], [], (TV.sv (.one (.lit (.bool (decide (a = b)))))), [], [], []⟩
theorem fn_EqualB (a b : List Bool) (hl : a.length ≤ 1048576) (hb : b.length ≤ 1048576) : Fn Tryd.prog (c_EqualB a b) := by
  refine fn_intro tt_ok Tryd.func72 rfl Tryd.call72 Tryd.ntmps72 Tryd.results72 rfl rfl rfl rfl ?_
  intro X ρ0 hb_ hgl_
  dsimp only [c_EqualB]
  try refine nrm ?_
  repeat' (refine ar_id ?_; first | refine st1 ?_ | (first | ((first | refine ar_region tt_ok (inps := []) rfl ?_ ?_); rotate_left; (try refine nrm ?_); rotate_right) | refine ret3 ?_ | refine end3 ?_) | (refine ar_cond rfl trivial ?_ ?_ <;> intro hc_ <;> (try simp only [isNilI, inB, reduceCtorEq, cds] at hc_) <;> (try (first | contradiction | (exfalso; omega)))) | refine ar_until (And.intro ?_ (wk3 ?_)))
  all_goals (first | refine ar_id ?_ | (try (focus ((try refine nrmO ?_); (repeat' (first | exact True.intro | refine And.intro ?_ ?_)); all_goals (try (intro (hg_ : _ = true); (try simp only [isNilI, inB, reduceCtorEq, cds] at hg_); (repeat' (first | exact True.intro | refine And.intro ?_ ?_)))); all_goals (first | exact ob1 | skip)))))
  · exact bf fun h => hc_ (by rw [h])
  have hlen := hc_
  refine ar_keep 12339 (by dsimp only [keepS] <;> exact rfl) ?_
  refine ar_forM (a.length) (fun i => a.take i = b.take i) (fun i => [(13, (TV.sv (.one (.lit (.int .i64 (i))))))]) (fun i => []) ?_ ?_ ?_
  rotate_left
  · first | trivial | simp
  (dsimp only [rnCap, capSVs, Int.toNat_natCast, ro, Nat.reduceAdd, Nat.reduceMul, Nat.zero_add, List.map, putT, app, wrapG, gOb, argT, keys, slotOf, dropped, gAnd, wB, rnT, rnS, rnC, rnCs, rnSs, rnM, rnB, rnN, rn, lk, St.over, ded, delL, keepT, menT, menSs, menS, menCs, menC, hasN, resT, SV.cells]; refine wk3 ?_; (focus ((try refine nrmO ?_); (repeat' (first | exact True.intro | refine And.intro ?_ ?_)); all_goals (try (intro (hg_ : _ = true); (try simp only [isNilI, inB, reduceCtorEq, cds] at hg_); (repeat' (first | exact True.intro | refine And.intro ?_ ?_)))); all_goals (first | exact ob1 | exact rfl | skip))))
  rotate_right
  intro i hi_ hiI_
  dsimp only [rnCap, capSVs, Int.toNat_natCast, ro, Nat.reduceAdd, Nat.reduceMul, Nat.zero_add, List.map, putT, app, wrapG, gOb, argT, keys, slotOf, dropped, gAnd, wB, rnT, rnS, rnC, rnCs, rnSs, rnM, rnB, rnN, rn, lk, St.over, ded, delL, keepT, menT, menSs, menS, menCs, menC, hasN, resT, SV.cells]
  repeat' (refine ar_id ?_; first | refine st1 ?_ | (first | ((first | refine ar_draw (id := 6) (inps := [.elem (Tr.eB (a.getD i false)), .elem (Tr.eB (b.getD i false))]) tt_ok (by kernel_rfl) rfl rfl (by kernel_rfl) rfl rfl rfl rfl ?_ ?_ | refine ar_region tt_ok (inps := []) rfl ?_ ?_); rotate_left; (try refine nrm ?_); rotate_right) | refine ret3 ?_ | refine end3 ?_) | (refine ar_cond rfl trivial ?_ ?_ <;> intro hc_ <;> (try simp only [isNilI, inB, reduceCtorEq, cds] at hc_) <;> (try (first | contradiction | (exfalso; omega)))) | refine ar_until (And.intro ?_ (wk3 ?_)))
  all_goals (first | refine ar_id ?_ | (try (focus ((try refine nrmO ?_); (repeat' (first | exact True.intro | refine And.intro ?_ ?_)); all_goals (try (intro (hg_ : _ = true); (try simp only [isNilI, inB, reduceCtorEq, cds] at hg_); (repeat' (first | exact True.intro | refine And.intro ?_ ?_)))); all_goals (first | exact ob1 | skip)))))
  · refine bf fun h => ?_
    subst h
    simp at hc_
  · rw [take_getD a false (by omega), take_getD b false (by omega), hiI_]
    simpa using hc_
  · refine bt ?_
    rw [List.take_of_length_le (by omega), List.take_of_length_le (by omega)] at hiI_
    exact hiI_
theorem onFrame_pos (f : Int) : ∀ (i : Nat) (l : List GEntry), 0 < (onFrame f i l).length ↔ ∃ e ∈ l, e.Mode ≠ 0 ∧ e.Frame = f
  | _, [] => by simp [onFrame]
  | i, e :: l => by
    have ih := onFrame_pos f (i + 1) l
    show 0 < (_ ++ onFrame f (i + 1) l).length ↔ _
    rw [List.length_append]
    by_cases h : e.Mode ≠ 0 ∧ e.Frame = f
    · rw [if_pos h]
      exact ⟨fun _ => ⟨e, by simp, h⟩, fun _ => by simp; omega⟩
    · rw [if_neg h]
      simp only [List.length_nil, Nat.zero_add, ih]
      constructor
      · rintro ⟨x, hx, h1⟩; exact ⟨x, by simp [hx], h1⟩
      · rintro ⟨x, hx, h1⟩
        rw [List.mem_cons] at hx
        rcases hx with rfl | hx
        · exact absurd h1 h
        · exact ⟨x, hx, h1⟩
theorem used_iff (m : GMachine) : usedAre m ↔ m.Frames.Used = fwL m.Table.Entries m.Frames.Used.length := by
  have h0 : ∀ i, i < m.Frames.Used.length → (fwL m.Table.Entries m.Frames.Used.length)[i]? = some (decide (0 < (pPagesOn m.Table (i : Int)).length)) := by
    intro i hi
    unfold fwL pPagesOn
    rw [List.getElem?_map, List.getElem?_range hi, Option.map_some]
    congr 1
    rw [decide_eq_decide, onFrame_pos]
  constructor
  · intro h
    refine List.ext_getElem? fun i => ?_
    rcases Nat.lt_or_ge i m.Frames.Used.length with hi | hi
    · rw [h i hi, h0 i hi]
    · rw [List.getElem?_eq_none hi, List.getElem?_eq_none (by rw [fwL_len]; exact hi)]
  · intro h i hi
    rw [← h0 i hi, ← h]
/-- a machine that can be read: its slices are not too long -/
structure szM (m : GMachine) : Prop where
  c : m.Frames.Cells.length ≤ 1048576
  u : m.Frames.Used.length ≤ 1048576
  r : ∀ r ∈ m.Frames.Cells, r.length ≤ 1048576
  e : m.Table.Entries.length ≤ 1048576
def c_MOkI (m : GMachine) : CFD := ⟨35, [.agg [ro 33 1 eIntS m.Frames.Cells, ro 4 1 Tr.eB m.Frames.Used, ro 51 2 eEntry m.Table.Entries]], [], (TV.sv (.one (.lit (.bool (pMachineOk m))))), [], [], []⟩
theorem fn_MOkI (m : GMachine) (hs : szM m) : Fn Tryd.prog (c_MOkI m) := by
  refine fn_intro tt_ok Tryd.func35 rfl Tryd.call35 Tryd.ntmps35 Tryd.results35 rfl rfl rfl rfl ?_
  intro X ρ0 hb_ hgl_
  dsimp only [c_MOkI]
  try refine nrm ?_
  repeat' (refine ar_id ?_; first | refine st1 ?_ | (first | ((first | refine ar_region (id := 1) tt_ok (inps := [.call (c_FramesOkI m.Frames), .call (c_TableOkI m.Table m.Frames.Used.length)]) rfl ?_ ?_ | refine ar_region tt_ok (inps := []) rfl ?_ ?_); rotate_left; (try dsimp only [c_FramesOkI, c_TableOkI]); (try refine nrm ?_); rotate_right) | refine ret3 ?_ | refine end3 ?_) | (refine ar_cond rfl trivial ?_ ?_ <;> intro hc_ <;> (try simp only [isNilI, inB, reduceCtorEq, cds] at hc_) <;> (try (first | contradiction | (exfalso; omega)))) | refine ar_until (And.intro ?_ (wk3 ?_)))
  all_goals (first | refine ar_id ?_ | (try (focus ((try refine nrmO ?_); (repeat' (first | exact True.intro | refine And.intro ?_ ?_)); all_goals (try (intro (hg_ : _ = true); (try simp only [isNilI, inB, reduceCtorEq, cds] at hg_); (repeat' (first | exact True.intro | refine And.intro ?_ ?_)))); all_goals (first | exact ob1 | exact fn_FramesOkI _ hs.c hs.u hs.r | exact fn_TableOkI _ _ hs.e | skip)))))
  · refine bf fun h => ?_
    rcases hc_ with hc_ | hc_
    · rw [show pFramesOk m.Frames = true from decide_eq_true h.1] at hc_; cases hc_
    · rw [h.1.2.1, h.2.1] at hc_; cases hc_
  have hok := of_decide_eq_true hc_.1
  repeat' (refine ar_id ?_; first | refine st1 ?_ | (first | ((first | refine ar_draw (id := 3) (inps := [.call (c_fwp m.Table m.Frames.Used.length), .call (c_EqualB m.Frames.Used (fwL m.Table.Entries m.Frames.Used.length))]) tt_ok (by kernel_rfl) rfl rfl (by kernel_rfl) rfl rfl rfl rfl ?_ ?_ | refine ar_region tt_ok (inps := []) rfl ?_ ?_); rotate_left; (try dsimp only [c_EqualB, c_fwp]); (try refine nrm ?_); rotate_right) | refine ret3 ?_ | refine end3 ?_) | (refine ar_cond rfl trivial ?_ ?_ <;> intro hc_ <;> (try simp only [isNilI, inB, reduceCtorEq, cds] at hc_) <;> (try (first | contradiction | (exfalso; omega)))) | refine ar_until (And.intro ?_ (wk3 ?_)))
  all_goals (first | refine ar_id ?_ | (try (focus ((try refine nrmO ?_); (repeat' (first | exact True.intro | refine And.intro ?_ ?_)); all_goals (try (intro (hg_ : _ = true); (try simp only [isNilI, inB, reduceCtorEq, cds] at hg_); (repeat' (first | exact True.intro | refine And.intro ?_ ?_)))); all_goals (first | exact ob1 | exact fn_EqualB _ _ hs.u (by rw [fwL_len]; exact hs.u) | exact fn_fwp _ _ hs.e hs.u (of_decide_eq_true hc_.2).1 | skip)))))
  refine congrArg Value.bool ?_
  show _ = decide (okM m)
  rw [decide_eq_decide]
  exact ⟨fun h => ⟨hok, by rw [← hok.2.1]; exact hc_.2, (used_iff m).2 h⟩, fun h => (used_iff m).1 h.2.2⟩
def c_CopyMI (m : GMachine) : CFD := ⟨68, [.agg [ro 33 1 eIntS m.Frames.Cells, ro 4 1 Tr.eB m.Frames.Used, ro 51 2 eEntry m.Table.Entries]], [], .sv (.agg [.hd 0, .hd 1, .hd 2]),
  [(0, some (.row 33 1 (m.Frames.Cells.map eIntS))), (1, some (.row 4 1 (m.Frames.Used.map Tr.eB))), (2, some (.row 51 2 (m.Table.Entries.map eEntry)))], [0, 1, 2], []⟩
theorem fn_CopyMI (m : GMachine) (hs : szM m) : Fn Tryd.prog (c_CopyMI m) := by
  refine fn_intro tt_ok Tryd.func68 rfl Tryd.call68 Tryd.ntmps68 Tryd.results68 rfl rfl rfl rfl ?_
  intro X ρ0 hb_ hgl_
  dsimp only [c_CopyMI]
  try refine nrm ?_
  repeat' (refine ar_id ?_; first | refine st1 ?_ | (first | ((first | refine ar_draw (id := 1) (inps := [.call (c_Copy5I m.Frames), .call (c_CloneE m.Table.Entries)]) tt_ok (by kernel_rfl) rfl rfl (by kernel_rfl) rfl rfl rfl rfl ?_ ?_ | refine ar_region tt_ok (inps := []) rfl ?_ ?_); rotate_left; (try dsimp only [c_CloneE, c_Copy5I]); (try refine nrm ?_); rotate_right) | refine ret3 ?_ | refine end3 ?_) | (refine ar_cond rfl trivial ?_ ?_ <;> intro hc_ <;> (try simp only [isNilI, inB, reduceCtorEq, cds] at hc_) <;> (try (first | contradiction | (exfalso; omega)))) | refine ar_until (And.intro ?_ (wk3 ?_)))
  all_goals (first | refine ar_id ?_ | (try (focus ((try refine nrmO ?_); (repeat' (first | exact True.intro | refine And.intro ?_ ?_)); all_goals (try (intro (hg_ : _ = true); (try simp only [isNilI, inB, reduceCtorEq, cds] at hg_); (repeat' (first | exact True.intro | refine And.intro ?_ ?_)))); all_goals (first | exact ob1 | exact fn_Copy5I _ hs.c hs.u hs.r | exact fn_CloneE _ hs.e | skip)))))
/-- the sentinel of a page that is not mapped -/
def eP (a : Addr) : Value := .iface 188 (.pointer (some a))
def gP (a : Addr) (ty : Nat) : Glb := ⟨1, [eP a], ty, (0, 0)⟩
def canMap (m : GMachine) (page : Int) : Prop := okM m ∧ (pPageEntry m.Table page).Mode ≠ 0
instance (m : GMachine) (page : Int) : Decidable (canMap m page) := by unfold canMap; infer_instance
/-- the three sentinels -/
structure Se where
  (aP aW aV : Addr)
  (cP cW cV : List Value)
  (tP tW tV uP uW uV : Nat)
  n1 : aP ≠ aW
  n2 : aP ≠ aV
  n3 : aW ≠ aV
def gW (a : Addr) (ty : Nat) : Glb := ⟨2, [eP a], ty, (0, 0)⟩
def gV (a : Addr) (ty : Nat) : Glb := ⟨3, [eP a], ty, (0, 0)⟩
def Se.gl (s : Se) : List Glb := [gP s.aP s.uP, gW s.aW s.uW, gV s.aV s.uV, ⟨s.aP.block, s.cP, s.tP, (0, 0)⟩, ⟨s.aW.block, s.cW, s.tW, (0, 0)⟩, ⟨s.aV.block, s.cV, s.tV, (0, 0)⟩]
end Eng
end Go.Proofs.YtgeakpeodhhffaaDoor
namespace Go.Proofs.YtgeakpeodhhffaaDoor
open Go.RowKit
set_option linter.unusedVariables false
set_option linter.unusedSimpArgs false
set_option maxRecDepth 100000
namespace Eng
open Tr
/-- a kernel that can be read -/
structure szK (k : GKernel) : Prop where
  m : szM k.Machine
  r : k.Refuse.length ≤ 1048576
def c_KOkI (k : GKernel) : CFD := ⟨12, [.agg [ro 33 1 eIntS k.Machine.Frames.Cells, ro 4 1 Tr.eB k.Machine.Frames.Used, ro 51 2 eEntry k.Machine.Table.Entries, (CV.lit (.int .i64 (k.Calls))), ro 3 1 Tr.eI k.Refuse]], [], (TV.sv (.one (.lit (.bool (pKernelOk k))))), [], [], []⟩
theorem fn_KOkI (k : GKernel) (hs : szK k) : Fn Tryd.prog (c_KOkI k) := by
  have hr := hs.r
  refine fn_intro tt_ok Tryd.func12 rfl Tryd.call12 Tryd.ntmps12 Tryd.results12 rfl rfl rfl rfl ?_
  intro X ρ0 hb_ hgl_
  dsimp only [c_KOkI]
  try refine nrm ?_
  repeat' (refine ar_id ?_; first | refine st1 ?_ | (first | ((first | refine ar_region (id := 1) tt_ok (inps := [.call (c_MOkI k.Machine)]) rfl ?_ ?_ | refine ar_region tt_ok (inps := []) rfl ?_ ?_); rotate_left; (try dsimp only [c_MOkI]); (try refine nrm ?_); rotate_right) | refine ret3 ?_ | refine end3 ?_) | (refine ar_cond rfl trivial ?_ ?_ <;> intro hc_ <;> (try simp only [isNilI, inB, reduceCtorEq, cds] at hc_) <;> (try (first | contradiction | (exfalso; omega)))) | refine ar_until (And.intro ?_ (wk3 ?_)))
  all_goals (first | refine ar_id ?_ | (try (focus ((try refine nrmO ?_); (repeat' (first | exact True.intro | refine And.intro ?_ ?_)); all_goals (try (intro (hg_ : _ = true); (try simp only [isNilI, inB, reduceCtorEq, cds] at hg_); (repeat' (first | exact True.intro | refine And.intro ?_ ?_)))); all_goals (first | exact ob1 | exact fn_MOkI _ hs.m | skip)))))
  · refine bf fun h => ?_
    rcases hc_ with ((hc_ | hc_) | hc_) | hc_
    · exact of_decide_eq_false hc_ h.1
    · have := h.2.1.1; omega
    · have := h.2.1.2; omega
    · have := h.2.2.2; omega
  have hc1 := hc_
  refine ar_keep 469762071 (by dsimp only [keepS] <;> exact rfl) ?_
  refine ar_forM (k.Refuse.length) (fun i => ∀ y ∈ k.Refuse.take i, 0 ≤ y) (fun i => [(28, (TV.sv (.one (.lit (.int .i64 (i))))))]) (fun i => []) ?_ ?_ ?_
  rotate_left
  · first | trivial | simp
  (dsimp only [rnCap, capSVs, Int.toNat_natCast, ro, Nat.reduceAdd, Nat.reduceMul, Nat.zero_add, List.map, putT, app, wrapG, gOb, argT, keys, slotOf, dropped, gAnd, wB, rnT, rnS, rnC, rnCs, rnSs, rnM, rnB, rnN, rn, lk, St.over, ded, delL, keepT, menT, menSs, menS, menCs, menC, hasN, resT, SV.cells]; refine wk3 ?_; (focus ((try refine nrmO ?_); (repeat' (first | exact True.intro | refine And.intro ?_ ?_)); all_goals (try (intro (hg_ : _ = true); (try simp only [isNilI, inB, reduceCtorEq, cds] at hg_); (repeat' (first | exact True.intro | refine And.intro ?_ ?_)))); all_goals (first | exact ob1 | exact rfl | skip))))
  rotate_right
  intro i hi_ hiI_
  dsimp only [rnCap, capSVs, Int.toNat_natCast, ro, Nat.reduceAdd, Nat.reduceMul, Nat.zero_add, List.map, putT, app, wrapG, gOb, argT, keys, slotOf, dropped, gAnd, wB, rnT, rnS, rnC, rnCs, rnSs, rnM, rnB, rnN, rn, lk, St.over, ded, delL, keepT, menT, menSs, menS, menCs, menC, hasN, resT, SV.cells]
  repeat' (refine ar_id ?_; first | refine st1 ?_ | (first | ((first | refine ar_region (id := 5) tt_ok (inps := [.elem (Tr.eI (k.Refuse.getD i 0))]) rfl ?_ ?_ | refine ar_region tt_ok (inps := []) rfl ?_ ?_); rotate_left; (try refine nrm ?_); rotate_right) | refine ret3 ?_ | refine end3 ?_) | (refine ar_cond rfl trivial ?_ ?_ <;> intro hc_ <;> (try simp only [isNilI, inB, reduceCtorEq, cds] at hc_) <;> (try (first | contradiction | (exfalso; omega)))) | refine ar_until (And.intro ?_ (wk3 ?_)))
  all_goals (first | refine ar_id ?_ | (try (focus ((try refine nrmO ?_); (repeat' (first | exact True.intro | refine And.intro ?_ ?_)); all_goals (try (intro (hg_ : _ = true); (try simp only [isNilI, inB, reduceCtorEq, cds] at hg_); (repeat' (first | exact True.intro | refine And.intro ?_ ?_)))); all_goals (first | exact ob1 | skip)))))
  · exact bf fun h => by have := h.2.2.1 _ (getD_in (l := k.Refuse) (i := i) (d := 0) (by omega)); omega
  · exact all_take (d := 0) hiI_ (by omega) hc_
  · exact bt ⟨of_decide_eq_true hc1.1.1.1, ⟨hc1.1.1.2, hc1.1.2⟩, all_full hiI_ (by omega), by omega⟩
def c_CopyKI (k : GKernel) : CFD := ⟨28, [.agg [ro 33 1 eIntS k.Machine.Frames.Cells, ro 4 1 Tr.eB k.Machine.Frames.Used, ro 51 2 eEntry k.Machine.Table.Entries, (CV.lit (.int .i64 (k.Calls))), ro 3 1 Tr.eI k.Refuse]], [], .sv (.agg [.hd 0, .hd 1, .hd 2, (CV.lit (.int .i64 (k.Calls))), .hd 3]), [(0, some (.row 33 1 (k.Machine.Frames.Cells.map eIntS))), (1, some (.row 4 1 (k.Machine.Frames.Used.map Tr.eB))), (2, some (.row 51 2 (k.Machine.Table.Entries.map eEntry))), (3, some (.row 3 1 (k.Refuse.map Tr.eI)))], [0, 1, 2, 3], []⟩
theorem fn_CopyKI (k : GKernel) (hs : szK k) : Fn Tryd.prog (c_CopyKI k) := by
  have hr := hs.r
  refine fn_intro tt_ok Tryd.func28 rfl Tryd.call28 Tryd.ntmps28 Tryd.results28 rfl rfl rfl rfl ?_
  intro X ρ0 hb_ hgl_
  dsimp only [c_CopyKI]
  try refine nrm ?_
  repeat' (refine ar_id ?_; first | refine st1 ?_ | (first | ((first | refine ar_draw (id := 1) (inps := [.call (c_CopyMI k.Machine), .call (c_CloneI k.Refuse)]) tt_ok (by kernel_rfl) rfl rfl (by kernel_rfl) rfl rfl rfl rfl ?_ ?_ | refine ar_region tt_ok (inps := []) rfl ?_ ?_); rotate_left; (try dsimp only [c_CloneI, c_CopyMI]); (try refine nrm ?_); rotate_right) | refine ret3 ?_ | refine end3 ?_) | (refine ar_cond rfl trivial ?_ ?_ <;> intro hc_ <;> (try simp only [isNilI, inB, reduceCtorEq, cds] at hc_) <;> (try (first | contradiction | (exfalso; omega)))) | refine ar_until (And.intro ?_ (wk3 ?_)))
  all_goals (first | refine ar_id ?_ | (try (focus ((try refine nrmO ?_); (repeat' (first | exact True.intro | refine And.intro ?_ ?_)); all_goals (try (intro (hg_ : _ = true); (try simp only [isNilI, inB, reduceCtorEq, cds] at hg_); (repeat' (first | exact True.intro | refine And.intro ?_ ?_)))); all_goals (first | exact ob1 | exact fn_CopyMI _ hs.m | exact fn_CloneI _ hs.r | skip)))))
end Eng
end Go.Proofs.YtgeakpeodhhffaaDoor
namespace Go.Proofs.YtgeakpeodhhffaaDoor
open Go.RowKit
set_option linter.unusedVariables false
namespace Eng
open Tr
theorem okF_sz {f : GFrames} (h : okF f) : f.Cells.length ≤ 32 ∧ f.Used.length ≤ 32 ∧ ∀ r ∈ f.Cells, r.length ≤ 16 := by
  refine ⟨h.1.2, by have := h.1.2; have := h.2.1; omega, fun r hr => ?_⟩
  obtain ⟨i, hi⟩ := List.getElem?_of_mem hr
  have hl := (List.getElem?_eq_some_iff.1 hi).1
  have hu : f.Used[i]? = some (f.Used.getD i false) := getD_at (by have := h.2.1; omega)
  have := h.2.2 _ (List.mem_of_getElem? (zip_at hi hu))
  have := this.1
  show r.length ≤ 16
  simp only at this
  omega
theorem okK_sz {k : GKernel} (h : okK k) : szK k := by
  obtain ⟨h1, h2, h3⟩ := okF_sz h.1.1
  have h4 := h.1.2.1
  unfold pTableOk at h4
  have h5 := of_decide_eq_true h4
  exact ⟨⟨by omega, by omega, fun r hr => by have := h3 r hr; omega, by omega⟩, by have := h.2.2.2; omega⟩
end Eng
end Go.Proofs.YtgeakpeodhhffaaDoor
namespace Go.Proofs.YtgeakpeodhhffaaDoor
open Go.RowKit
set_option linter.unusedVariables false
set_option linter.unusedSimpArgs false
set_option maxRecDepth 100000
namespace Tr
theorem okF_row16 {fr : GFrames} (h : okF fr) {i : Nat} {u : Bool} {r : List Int} (hu : fr.Used[i]? = some u) (hr : okRow u r) : okF ⟨fr.Cells.set i r, fr.Used⟩ := by
  refine ⟨by simpa using h.1, by simpa using h.2.1, ?_⟩
  intro p hp
  obtain ⟨j, hj⟩ := List.getElem?_of_mem hp
  rw [List.getElem?_zip_eq_some] at hj
  obtain ⟨h1, h2⟩ := hj
  rw [List.getElem?_set] at h1
  by_cases e : i = j
  · subst e
    rw [if_pos rfl] at h1
    split at h1
    · have e1 : r = p.1 := Option.some.inj h1
      have e2 : u = p.2 := Option.some.inj (hu.symm.trans h2)
      rw [← e1, ← e2]; exact hr
    · cases h1
  · rw [if_neg e] at h1
    exact h.2.2 p (List.mem_of_getElem? (zip_at h1 h2))
theorem getD_row16 {l : List (List Int)} {i : Nat} {r : List Int} (h : l[i]? = some r) : l.getD i [] = r := by rw [List.getD_eq_getElem?_getD, h]; rfl
theorem okM_put {m : GMachine} (h : okM m) {addr v : Int} (hC : canLoad m addr) (hv : 0 ≤ v ∧ v ≤ 999) : okM (setCellOf m (pEntry m addr).1.Frame (pEntry m addr).2 v) := by
  obtain ⟨ha, f, k, r, hf, hk, k1, k2, k3, k4, k5⟩ := load_at hC
  have hm := hC.2
  have hf' := hf
  unfold pEntry at hm hf'
  rw [if_neg (by omega)] at hm hf'
  have hu : m.Frames.Used[f]? = some true := okM_used h hm hf' k3
  obtain ⟨h1, h2, h3⟩ := h
  unfold setCellOf
  rw [hf, hk, Int.toNat_natCast, Int.toNat_natCast, getD_row16 k4]
  have hr := h1.2.2 _ (List.mem_of_getElem? (zip_at k4 hu))
  refine ⟨okF_row16 h1 hu ⟨by rw [List.length_set]; exact hr.1, fun x hx => ?_⟩, ?_, h3⟩
  · rcases List.mem_or_eq_of_mem_set hx with hx | hx
    · exact hr.2 x hx
    · rw [hx]; exact ⟨hv, .inl rfl⟩
  · show pTableOk m.Table (((m.Frames.Cells.set f _).length : Nat) : Int) = true
    rw [List.length_set]
    exact h2
theorem m44o : okM (pMachineNew 4 4).1 := by decide +kernel
theorem new44 {r : List Int} (h0 : ∀ x ∈ r, 0 ≤ x) (hl : r.length ≤ 40) : pKernelNew 4 4 r = (⟨(pMachineNew 4 4).1, 0, r⟩, true) ∧ okK ⟨(pMachineNew 4 4).1, 0, r⟩ ∧ modeOf ⟨(pMachineNew 4 4).1, 0, r⟩ 0 = 0 := by
  have hk0 : okK ⟨(pMachineNew 4 4).1, 0, r⟩ := ⟨m44o, ⟨Int.le_refl _, (by show (0 : Int) ≤ 100000; decide)⟩, h0, by show r.length ≤ 40; omega⟩
  refine ⟨if_pos ⟨by decide, hk0⟩, hk0, ?_⟩
  show (pPageEntry (pMachineNew 4 4).1.Table 0).Mode = 0
  decide +kernel
theorem entry_setE (m : GMachine) {p : Int} (h0 : 0 ≤ p) (e : GEntry) (q : Int) : pPageEntry (setEntry m p.toNat e).Table q = if q = p ∧ p < m.Table.Entries.length then e else pPageEntry m.Table q := by
  unfold pPageEntry setEntry
  dsimp only
  rw [List.length_set]
  by_cases hq : 0 ≤ q ∧ q < m.Table.Entries.length
  · rw [if_pos hq, if_pos hq, List.getD_eq_getElem?_getD, List.getElem?_set]
    by_cases e1 : q = p
    · subst e1
      rw [if_pos rfl, if_pos (by omega), if_pos ⟨rfl, hq.2⟩]; rfl
    · rw [if_neg (by omega), if_neg (fun x => e1 x.1), List.getD_eq_getElem?_getD]
  · rw [if_neg hq, if_neg hq, if_neg (fun x => hq ⟨by omega, by omega⟩)]
/-- one page more: what it leaves -/
theorem new_step {k : GKernel} (hk : canCall k) (p : Int) : okK (pNew k p).1 ∧ (pNew k p).1.Calls = k.Calls + 1 ∧ ((pNew k p).2 = false → (pNew k p).1.Machine = k.Machine) ∧ ((pNew k p).2 = true → modeOf (pNew k p).1 p = 2 ∧ ∀ q, q ≠ p → modeOf (pNew k p).1 q = modeOf k q) := by
  have hl := law_new hk p
  unfold pKMapNew at hl
  rw [if_pos hk] at hl
  refine ⟨hl.ok, hl.calls, hl.same, fun hb => ?_⟩
  unfold pNew at hb ⊢
  by_cases hc : granted k ∧ (0 ≤ p ∧ p < k.Machine.Table.Entries.length) ∧ modeOf k p = 0 ∧ 0 ≤ pFree k.Machine.Frames
  · rw [if_pos hc]
    have h0 := hc.2.1.1
    refine ⟨?_, fun q hq => ?_⟩
    · show (pPageEntry (setEntry ⟨⟨_, _⟩, k.Machine.Table⟩ p.toNat _).Table p).Mode = 2
      rw [entry_setE _ h0, if_pos ⟨rfl, hc.2.1.2⟩]
    · show (pPageEntry (setEntry ⟨⟨_, _⟩, k.Machine.Table⟩ p.toNat _).Table q).Mode = _
      rw [entry_setE _ h0, if_neg (fun x => hq x.1)]
      rfl
  · rw [if_neg hc] at hb
    cases hb
theorem prot_step {k : GKernel} (hk : canCall k) (p : Int) : okK (pProtect k p 1).1 ∧ (pProtect k p 1).1.Calls = k.Calls + 1 ∧ ∀ q, modeOf k q ≠ 0 → modeOf (pProtect k p 1).1 q ≠ 0 := by
  have hl := law_protect hk p 1
  unfold pKProtect at hl
  rw [if_pos hk] at hl
  refine ⟨hl.ok, hl.calls, fun q hq => ?_⟩
  unfold pProtect
  by_cases hc : granted k ∧ modeOf k p ≠ 0 ∧ (1 ≤ (1 : Int) ∧ (1 : Int) ≤ 2)
  · rw [if_pos hc]
    show (pPageEntry (setEntry k.Machine p.toNat ⟨1, _⟩).Table q).Mode ≠ 0
    have h0 : 0 ≤ p := by
      have := hc.2.1
      unfold modeOf pPageEntry at this
      split at this
      · rename_i h; exact h.1
      · exact absurd rfl this
    rw [entry_setE _ h0]
    split
    · show (1 : Int) ≠ 0; decide
    · exact hq
  · rw [if_neg hc]; exact hq
end Tr
end Go.Proofs.YtgeakpeodhhffaaDoor
namespace Go.Proofs.YtgeakpeodhhffaaDoor
open Go.RowKit
set_option linter.unusedVariables false
set_option linter.unusedSimpArgs false
set_option maxRecDepth 100000
namespace Eng
open Tr
theorem szK8_ok {k : GKernel} (h : okK k) : szK8 k := by have := okK_sz h; exact ⟨⟨this.m.c, this.m.u, this.m.r, this.m.e⟩, this.r⟩
theorem szM7_ok {m : GMachine} (h : okM m) : szM7 m := (szK8_ok (k := ⟨m, 0, []⟩) ⟨h, ⟨Int.le_refl _, (by show (0 : Int) ≤ 100000; decide)⟩, fun x hx => (by cases hx), Nat.zero_le _⟩).m
def adr (p : Int) (x : Int) : Int := p * 16 + x
/-- the contents of a page's cells, as0 they are drawn -/
def cpS (bs : List Int) (p : Int) (cells : List Int) (s : GMachine × Cu) : Nat → GMachine × Cu
  | 0 => s
  | i + 1 => (setCellOf (cpS bs p cells s i).1 (pEntry (cpS bs p cells s i).1 (adr p (cells.getD i 0))).1.Frame (pEntry (cpS bs p cells s i).1 (adr p (cells.getD i 0))).2 (1 + (dBelow bs (cpS bs p cells s i).2 999).1), (dBelow bs (cpS bs p cells s i).2 999).2)
theorem pEntry_adr (m : GMachine) {p x : Int} (hp : 0 ≤ p) (hx : 0 ≤ x ∧ x ≤ 15) : pEntry m (adr p x) = (pPageEntry m.Table p, x) := by
  unfold pEntry adr
  rw [if_neg (by omega), show (p * 16 + x) / 16 = p by omega, show (p * 16 + x) % 16 = x by omega]
theorem cpS_facts {bs : List Int} {p : Int} {cells : List Int} {s : GMachine × Cu} (hp : 0 ≤ p) (hm : (pPageEntry s.1.Table p).Mode = 2) (ho : okM s.1) (hc : okCu bs s.2) (hx : ∀ x ∈ cells, 0 ≤ x ∧ x ≤ 15) : ∀ i, i ≤ cells.length → okM (cpS bs p cells s i).1 ∧ (cpS bs p cells s i).1.Table = s.1.Table ∧ okCu bs (cpS bs p cells s i).2
  | 0, _ => ⟨ho, rfl, hc⟩
  | i + 1, hi => by
    obtain ⟨h1, h2, h3⟩ := cpS_facts hp hm ho hc hx i (by omega)
    have hxi := hx _ (getD_in (l := cells) (i := i) (d := 0) (by omega))
    have hb := dBelow_lt bs (cpS bs p cells s i).2 999 (by decide)
    have hC : canLoad (cpS bs p cells s i).1 (adr p (cells.getD i 0)) := ⟨h1, by rw [pEntry_adr _ hp hxi, h2]; show (pPageEntry s.1.Table p).Mode ≠ 0; rw [hm]; decide⟩
    exact ⟨okM_put h1 hC (by omega), h2, dBelow_ok _ h3⟩
structure DS where
  k : GKernel
  ss : List GSpan
  c : Cu
def sp16 (bs : List Int) (cl : Int) (s : DS) (p : Nat) : GSpan := ⟨(p : Int), cl, (dMap bs s.c (Cl.slots cl)).1⟩
def pt16 (bs : List Int) (cl : Int) (s : DS) (p : Nat) : GMachine × Cu :=
  cpS bs (p : Int) (pSpanCells (sp16 bs cl s p)) ((pNew s.k (p : Int)).1.Machine, (dMap bs s.c (Cl.slots cl)).2) (pSpanCells (sp16 bs cl s p)).length
def k16 (bs : List Int) (cl : Int) (s : DS) (p : Nat) : GKernel := ⟨(pt16 bs cl s p).1, (pNew s.k (p : Int)).1.Calls, (pNew s.k (p : Int)).1.Refuse⟩
def pgStep (bs : List Int) (cl : Int) (s : DS) (p : Nat) : DS :=
  if (pNew s.k (p : Int)).2 = true then
    ⟨if (dBelow bs (pt16 bs cl s p).2 4).1 = 0 then (pProtect (k16 bs cl s p) (p : Int) 1).1 else k16 bs cl s p, s.ss ++ [sp16 bs cl s p], (dBelow bs (pt16 bs cl s p).2 4).2⟩
  else ⟨(pNew s.k (p : Int)).1, s.ss, s.c⟩
def pgS (bs : List Int) (cl : Int) (s : DS) : Nat → DS
  | 0 => s
  | p + 1 => pgStep bs cl (pgS bs cl s p) p
def d0 (bs : List Int) (c : Cu) : DS := ⟨⟨(pMachineNew 4 4).1, 0, (dRef bs c).1⟩, [], (dBelow bs (dRef bs c).2 4).2⟩
def dCase (bs : List Int) (c : Cu) : DS := pgS bs (dBelow bs (dRef bs c).2 4).1 (d0 bs c) 3
/-- what is known of such a kernel -/
structure DInv (bs : List Int) (s : DS) (p : Nat) : Prop where
  ok : okK s.k
  calls : s.k.Calls ≤ 2 * (p : Int)
  cu : okCu bs s.c
  sp : ∀ x ∈ s.ss, pSpanOk x = true ∧ modeOf s.k x.Page ≠ 0 ∧ x.Page < (p : Int)
  n : s.ss.length ≤ p
  none : s.ss = [] → modeOf s.k 0 = 0
theorem sp16_ok (bs : List Int) {cl : Int} (s : DS) {p : Nat} (hp : p < 3) (hcl : 0 ≤ cl ∧ cl < 4) : pSpanOk (sp16 bs cl s p) = true := by
  have hb := dMap_bd bs s.c (Cl.slots cl)
  have h4 : cl = 0 ∨ cl = 1 ∨ cl = 2 ∨ cl = 3 := by omega
  have hs : 1 ≤ Cl.slots cl ∧ Cl.slots cl ≤ 16 := by rcases h4 with rfl | rfl | rfl | rfl <;> decide
  unfold pSpanOk sp16
  dsimp only
  rw [Bool.and_eq_true, decide_eq_true_eq]
  refine ⟨by omega, ?_⟩
  unfold Bm.isMap
  rw [decide_eq_true_eq]
  refine ⟨hs.1, hs.2, hb.1, ?_⟩
  have : ((2 : Int) ^ (Cl.slots cl).toNat) = ((2 ^ (Cl.slots cl).toNat : Nat) : Int) := by simp
  rw [this]; exact hb.2
theorem cells_bd (s : GSpan) : ∀ x ∈ pSpanCells s, 0 ≤ x ∧ x ≤ 15 := by
  intro x hx
  unfold pSpanCells at hx
  split at hx
  · unfold inUse at hx
    obtain ⟨i, hi, rfl⟩ := List.mem_map.1 hx
    have := List.mem_range.1 (List.mem_filter.1 hi).1
    omega
  · cases hx
theorem pg_in {bs : List Int} {cl : Int} {s : DS} {p : Nat} (h : DInv bs s p) (hp : p < 3) (hcl : 0 ≤ cl ∧ cl < 4) (hb : (pNew s.k (p : Int)).2 = true) : canCall s.k ∧ (∀ i, i ≤ (pSpanCells (sp16 bs cl s p)).length → okM (cpS bs (p : Int) (pSpanCells (sp16 bs cl s p)) ((pNew s.k (p : Int)).1.Machine, (dMap bs s.c (Cl.slots cl)).2) i).1 ∧ (cpS bs (p : Int) (pSpanCells (sp16 bs cl s p)) ((pNew s.k (p : Int)).1.Machine, (dMap bs s.c (Cl.slots cl)).2) i).1.Table = (pNew s.k (p : Int)).1.Machine.Table ∧ okCu bs (cpS bs (p : Int) (pSpanCells (sp16 bs cl s p)) ((pNew s.k (p : Int)).1.Machine, (dMap bs s.c (Cl.slots cl)).2) i).2) ∧ okK (k16 bs cl s p) ∧ (pPageEntry (pNew s.k (p : Int)).1.Machine.Table (p : Int)).Mode = 2 := by
  have hcc : canCall s.k := ⟨h.ok, by have := h.calls; omega⟩
  obtain ⟨n1, n2, n3, n4⟩ := new_step hcc (p : Int)
  obtain ⟨n5, n6⟩ := n4 hb
  have hf := cpS_facts (bs := bs) (p := (p : Int)) (cells := pSpanCells (sp16 bs cl s p)) (s := ((pNew s.k (p : Int)).1.Machine, (dMap bs s.c (Cl.slots cl)).2)) (by omega) n5 n1.1 (dMap_ok _ h.cu) (cells_bd _)
  exact ⟨hcc, hf, ⟨(hf _ (Nat.le_refl _)).1, n1.2⟩, n5⟩
theorem pg_inv {bs : List Int} {cl : Int} {s : DS} {p : Nat} (h : DInv bs s p) (hp : p < 3) (hcl : 0 ≤ cl ∧ cl < 4) : DInv bs (pgStep bs cl s p) (p + 1) := by
  have hcc : canCall s.k := ⟨h.ok, by have := h.calls; omega⟩
  obtain ⟨n1, n2, n3, n4⟩ := new_step hcc (p : Int)
  have hca := h.calls
  unfold pgStep
  by_cases hb : (pNew s.k (p : Int)).2 = true
  · rw [if_pos hb]
    obtain ⟨n5, n6⟩ := n4 hb
    obtain ⟨_, g1, g2, g3⟩ := pg_in h hp hcl hb
    obtain ⟨_, t2, t3⟩ := g1 _ (Nat.le_refl _)
    have hm : ∀ q, modeOf (k16 bs cl s p) q = modeOf (pNew s.k (p : Int)).1 q := fun q => by unfold modeOf k16 pt16; rw [t2]
    have hck : (k16 bs cl s p).Calls = s.k.Calls + 1 := n2
    have hold : ∀ x ∈ s.ss ++ [sp16 bs cl s p], pSpanOk x = true ∧ modeOf (k16 bs cl s p) x.Page ≠ 0 ∧ x.Page < ((p + 1 : Nat) : Int) := by
      intro x hx
      rw [List.mem_append, List.mem_singleton] at hx
      rcases hx with hx | rfl
      · obtain ⟨q1, q2, q3⟩ := h.sp x hx
        refine ⟨q1, ?_, by omega⟩
        rw [hm, n6 _ (by omega)]; exact q2
      · refine ⟨sp16_ok bs s hp hcl, ?_, by show (p : Int) < _; omega⟩
        rw [hm]; show modeOf _ (p : Int) ≠ 0; rw [n5]; decide
    have hcu : okCu bs (dBelow bs (pt16 bs cl s p).2 4).2 := dBelow_ok _ t3
    by_cases ho : (dBelow bs (pt16 bs cl s p).2 4).1 = 0
    · rw [if_pos ho]
      obtain ⟨r1, r2, r3⟩ := prot_step (k := k16 bs cl s p) ⟨g2, by omega⟩ (p : Int)
      refine ⟨r1, by rw [r2, hck]; omega, hcu, fun x hx => ?_, by rw [List.length_append]; have := h.n; show _ + 1 ≤ _; omega, fun hx => by simp at hx⟩
      obtain ⟨q1, q2, q3⟩ := hold x hx
      exact ⟨q1, r3 _ q2, q3⟩
    · rw [if_neg ho]
      exact ⟨g2, by rw [hck]; omega, hcu, hold, by rw [List.length_append]; have := h.n; show _ + 1 ≤ _; omega, fun hx => by simp at hx⟩
  · rw [if_neg hb]
    have hM := n3 (by simpa using hb)
    have hm : ∀ q, modeOf (pNew s.k (p : Int)).1 q = modeOf s.k q := fun q => by unfold modeOf; rw [hM]
    exact ⟨n1, by rw [n2]; omega, h.cu, fun x hx => by obtain ⟨q1, q2, q3⟩ := h.sp x hx; exact ⟨q1, by rw [hm]; exact q2, by omega⟩, Nat.le_trans h.n (Nat.le_succ p), fun hx => by rw [hm]; exact h.none hx⟩
theorem d0_inv {bs : List Int} {c : Cu} (hc : okCu bs c) : DInv bs (d0 bs c) 0 ∧ okCu bs (dRef bs c).2 ∧ (∀ x ∈ (dRef bs c).1, 0 ≤ x) ∧ (dRef bs c).1.length ≤ 4 := by
  have hrf := rGo_facts bs 4 0 ([], c) hc (fun x hx => nomatch hx)
  obtain ⟨of, f0, fl⟩ := hrf
  have fl4 : (dRef bs c).1.length ≤ 4 := Nat.le_trans fl (by simp)
  obtain ⟨k1, k2, k3⟩ := new44 (r := (dRef bs c).1) f0 (by omega)
  exact ⟨⟨k2, Int.le_refl _, dBelow_ok _ of, fun x hx => (by cases hx), Nat.le_refl _, fun _ => k3⟩, of, f0, fl4⟩
theorem pgS_inv {bs : List Int} {cl : Int} {s : DS} (h : DInv bs s 0) (hcl : 0 ≤ cl ∧ cl < 4) : ∀ p, p ≤ 3 → DInv bs (pgS bs cl s p) p
  | 0, _ => h
  | p + 1, hp => pg_inv (pgS_inv h hcl p (by omega)) (by omega) hcl
theorem dCase_inv {bs : List Int} {c : Cu} (hc : okCu bs c) : DInv bs (dCase bs c) 3 := pgS_inv (d0_inv hc).1 (dBelow_lt bs _ 4 (by decide)) 3 (Nat.le_refl _)
end Eng
end Go.Proofs.YtgeakpeodhhffaaDoor
namespace Go.Proofs.YtgeakpeodhhffaaDoor
open Go.RowKit
set_option linter.unusedVariables false
set_option linter.unusedSimpArgs false
set_option maxRecDepth 100000
namespace Eng
open Tr
def c_Ref16 (bs : List Int) (c : Cu) : CFD := ⟨58, [.one (.box 0 0)], [(0, some (.box 113 [ro 5 1 eU bs, (CV.lit (.int .i64 (((c).i : Int)))), (CV.lit (.int .i64 ((c).h)))]))], .sv (.one (.hd 7)), [(0, some (.box 113 [ro 5 1 eU bs, (CV.lit (.int .i64 ((((dRef bs c).2).i : Int)))), (CV.lit (.int .i64 (((dRef bs c).2).h)))])), (7, some (.row 3 1 ((dRef bs c).1.map Tr.eI)))], [7], []⟩
theorem fn_Ref16 (bs : List Int) (c : Cu) (hc : okCu bs c) : Fn Tryd.prog (c_Ref16 bs c) := by
  obtain ⟨V, hV⟩ : ∃ V, dRef bs c = V := ⟨_, rfl⟩
  have hVe : V = rGo bs 4 0 ([], c) := hV.symm
  have hok := rS_ok hc
  have hlen := rS_len bs c
  have h0 : rS bs c 0 = ([], c) := rfl
  have hS : ∀ i, rS bs c (i + 1) = ((rS bs c i).1 ++ [(dBelow bs (dBelow bs (rS bs c i).2 4).2 12).1], (dBelow bs (dBelow bs (rS bs c i).2 4).2 12).2) := fun _ => rfl
  generalize rS bs c = T at *
  have hB : V = rGo bs (4 - 0) 0 (T 0) := by rw [h0]; exact hVe
  refine fn_intro tt_ok Tryd.func58 rfl Tryd.call58 Tryd.ntmps58 Tryd.results58 rfl rfl rfl rfl ?_
  intro X ρ0 hb_ hgl_
  dsimp only [c_Ref16]
  try refine nrm ?_
  rw [hV]
  repeat' (refine ar_id ?_; first | refine st1 ?_ | (first | ((first | refine ar_region tt_ok (inps := []) rfl ?_ ?_); rotate_left; (try refine nrm ?_); rotate_right) | refine ret3 ?_ | refine end3 ?_) | (refine ar_cond rfl trivial ?_ ?_ <;> intro hc_ <;> (try simp only [isNilI, inB, reduceCtorEq, cds] at hc_) <;> (try (first | contradiction | (exfalso; omega)))) | refine ar_until (And.intro ?_ (wk3 ?_)))
  all_goals (first | refine ar_id ?_ | (try (focus ((try refine nrmO ?_); (repeat' (first | exact True.intro | refine And.intro ?_ ?_)); all_goals (try (intro (hg_ : _ = true); (try simp only [isNilI, inB, reduceCtorEq, cds] at hg_); (repeat' (first | exact True.intro | refine And.intro ?_ ?_)))); all_goals (first | exact ob1 | skip)))))
  refine ar_keep 29 (by dsimp only [keepS] <;> exact rfl) ?_
  refine ar_forM (4) (fun i => V = rGo bs (4 - i) i (T i)) (fun i => [(4, (TV.sv (.one (.lit (.int .i64 (i)))))), (3, (TV.sv (.one (.hd 5))))]) (fun i => [(5, some (.row 3 1 ((T i).1.map Tr.eI))), (0, some ((.box 113 [ro 5 1 eU bs, (CV.lit (.int .i64 ((((T i).2).i : Int)))), (CV.lit (.int .i64 (((T i).2).h)))])))]) ?_ ?_ ?_
  rotate_left
  · first | trivial | simp
  (dsimp only [rnCap, capSVs, Int.toNat_natCast, ro, Nat.reduceAdd, Nat.reduceMul, Nat.zero_add, List.map, putT, app, wrapG, gOb, argT, keys, slotOf, dropped, gAnd, wB, rnT, rnS, rnC, rnCs, rnSs, rnM, rnB, rnN, rn, lk, St.over, ded, delL, keepT, menT, menSs, menS, menCs, menC, hasN, resT, SV.cells]; refine wk3 ?_; (focus ((try refine nrmO ?_); (repeat' (first | exact True.intro | refine And.intro ?_ ?_)); all_goals (try (intro (hg_ : _ = true); (try simp only [isNilI, inB, reduceCtorEq, cds] at hg_); (repeat' (first | exact True.intro | refine And.intro ?_ ?_)))); all_goals (first | exact ob1 | exact rfl | skip))))
  rotate_right
  intro i hi_ hiI_
  dsimp only [rnCap, capSVs, Int.toNat_natCast, ro, Nat.reduceAdd, Nat.reduceMul, Nat.zero_add, List.map, putT, app, wrapG, gOb, argT, keys, slotOf, dropped, gAnd, wB, rnT, rnS, rnC, rnCs, rnSs, rnM, rnB, rnN, rn, lk, St.over, ded, delL, keepT, menT, menSs, menS, menCs, menC, hasN, resT, SV.cells]
  obtain ⟨v, hv⟩ : ∃ v, dBelow bs (T i).2 4 = v := ⟨_, rfl⟩
  have hv4 : 0 ≤ v.1 ∧ v.1 < 4 := hv ▸ dBelow_lt bs _ 4 (by decide)
  have o2 : okCu bs v.2 := hv ▸ dBelow_ok _ (hok i)
  obtain ⟨x, hx⟩ : ∃ x, dBelow bs v.2 12 = x := ⟨_, rfl⟩
  have hSi := hS i
  rw [hv, hx] at hSi
  repeat' (refine ar_id ?_; first | refine st1 ?_ | (refine ar_run (id := 3) [.call (c_BelowR bs (T i).2 4 v)] ?_; generalize hQ_ : kont _ _ _ _ = Q_; repeat' (first | (focus ((first | refine as_call3 tt_ok ?_ ?_ | refine as_sure3 tt_ok ?_ ?_ | refine as_cons3 tt_ok ?_ ?_); (try dsimp only [c_BelowR]); (try refine nrm ?_); rotate_left)) | (subst hQ_; refine as_nil ?_))) | (refine ar_run (id := 5) [.call (c_BelowR bs v.2 12 x)] ?_; generalize hQ_ : kont _ _ _ _ = Q_; repeat' (first | (focus ((first | refine as_call3 tt_ok ?_ ?_ | refine as_sure3 tt_ok ?_ ?_ | refine as_cons3 tt_ok ?_ ?_); (try dsimp only [c_BelowR]); (try refine nrm ?_); rotate_left)) | (subst hQ_; refine as_nil ?_))) | (first | ((first | refine ar_region tt_ok (inps := []) rfl ?_ ?_); rotate_left; (try dsimp only [c_BelowR]); (try refine nrm ?_); rotate_right) | refine ret3 ?_ | refine end3 ?_) | (refine ar_cond rfl trivial ?_ ?_ <;> intro hc_ <;> (try simp only [isNilI, inB, reduceCtorEq, cds] at hc_) <;> (try (first | contradiction | (exfalso; omega)))) | refine ar_until (And.intro ?_ (wk3 ?_)))
  all_goals (first | refine ar_id ?_ | (try (focus ((try refine nrmO ?_); (repeat' (first | exact True.intro | refine And.intro ?_ ?_)); all_goals (try (intro (hg_ : _ = true); (try simp only [isNilI, inB, reduceCtorEq, cds] at hg_); (repeat' (first | exact True.intro | refine And.intro ?_ ?_)))); all_goals (first | exact ob1 | exact fn_BelowR _ _ _ _ (hok i) hv | exact fn_BelowR _ _ _ _ o2 hx | skip)))))
  · simp only [List.length_map, hlen, List.length_cons, List.length_nil]; omega
  · have hlt : (i : Int) < (dBelow bs (T i).2 4).1 := by rw [hv]; exact hc_
    rw [hiI_, rGo_in bs hlt rfl, hS i]
  · rw [hSi, List.map_append, app_eq]; rfl
  · rw [hSi]
  · rw [hSi]
  all_goals first
    | (have hge : ¬ (i : Int) < (dBelow bs (T i).2 4).1 := by rw [hv]; omega
       rw [hiI_, rGo_out bs hge, hv]; done)
    | (rw [h0]; done)
    | (rw [h0]; rfl)
def c_RefR16 (bs : List Int) (c : Cu) (r : List Int × Cu) : CFD := ⟨58, [.one (.box 0 0)], [(0, some (.box 113 [ro 5 1 eU bs, (CV.lit (.int .i64 (((c).i : Int)))), (CV.lit (.int .i64 ((c).h)))]))], .sv (.one (.hd 7)), [(0, some (.box 113 [ro 5 1 eU bs, (CV.lit (.int .i64 (((r.2).i : Int)))), (CV.lit (.int .i64 ((r.2).h)))])), (7, some (.row 3 1 (r.1.map Tr.eI)))], [7], []⟩
theorem fn_RefR16 (bs : List Int) (c : Cu) (r : List Int × Cu) (hc : okCu bs c) (h : dRef bs c = r) : Fn Tryd.prog (c_RefR16 bs c r) := h ▸ fn_Ref16 bs c hc
def c_New16 (k : GKernel) (page : Int) (k' : GKernel) (b : Bool) : CFD := ⟨60, [.one (.box 0 0), (SV.one (.lit (.int .i64 (page))))], [(0, some (.box 35 [.hd 1, .hd 2, .hd 3, (CV.lit (.int .i64 (k.Calls))), .hd 4])), (1, some (.row 33 1 (k.Machine.Frames.Cells.map eIntS))), (2, some (.row 4 1 (k.Machine.Frames.Used.map Tr.eB))), (3, some (.row 51 2 (k.Machine.Table.Entries.map eEntry))), (4, some (.row 3 1 (k.Refuse.map Tr.eI)))], (TV.sv (.one (.lit (.bool (b))))), [(0, some (.box 35 [.hd 1, .hd 2, .hd 3, (CV.lit (.int .i64 ((k').Calls))), .hd 4])), (1, some (.row 33 1 ((k').Machine.Frames.Cells.map eIntS))), (2, some (.row 4 1 ((k').Machine.Frames.Used.map Tr.eB))), (3, some (.row 51 2 ((k').Machine.Table.Entries.map eEntry))), (4, some (.row 3 1 ((k').Refuse.map Tr.eI)))], [], []⟩
theorem fn_New16 (k : GKernel) (page : Int) (k' : GKernel) (b : Bool) (hs : szK8 k) (h0 : 0 ≤ k.Calls) (h1 : k.Calls < 100000) (h : pNew k page = (k', b)) : Fn Tryd.prog (c_New16 k page k' b) := by
  have h' := fn_New k page hs h0 h1
  unfold c_New at h'
  rw [h] at h'
  exact h'
def c_Prot16 (k : GKernel) (page mode : Int) (k' : GKernel) (b : Bool) : CFD := ⟨66, [.one (.box 0 0), (SV.one (.lit (.int .i64 (page)))), (SV.one (.lit (.int .i64 (mode))))], [(0, some (.box 35 [.hd 1, .hd 2, .hd 3, (CV.lit (.int .i64 (k.Calls))), .hd 4])), (1, some (.row 33 1 (k.Machine.Frames.Cells.map eIntS))), (2, some (.row 4 1 (k.Machine.Frames.Used.map Tr.eB))), (3, some (.row 51 2 (k.Machine.Table.Entries.map eEntry))), (4, some (.row 3 1 (k.Refuse.map Tr.eI)))], (TV.sv (.one (.lit (.bool (b))))), [(0, some (.box 35 [.hd 1, .hd 2, .hd 3, (CV.lit (.int .i64 ((k').Calls))), .hd 4])), (1, some (.row 33 1 ((k').Machine.Frames.Cells.map eIntS))), (2, some (.row 4 1 ((k').Machine.Frames.Used.map Tr.eB))), (3, some (.row 51 2 ((k').Machine.Table.Entries.map eEntry))), (4, some (.row 3 1 ((k').Refuse.map Tr.eI)))], [], []⟩
theorem fn_Prot16 (k : GKernel) (page mode : Int) (k' : GKernel) (b : Bool) (hs : szK8 k) (h0 : 0 ≤ k.Calls) (h1 : k.Calls < 100000) (h : pProtect k page mode = (k', b)) : Fn Tryd.prog (c_Prot16 k page mode k' b) := by
  have h' := fn_Protect k page mode hs h0 h1
  unfold c_Protect at h'
  rw [h] at h'
  exact h'
def c_KNew16 (r : List Int) (k : GKernel) (b : Bool) : CFD := ⟨57, [(SV.one (.lit (.int .i64 (4)))), (SV.one (.lit (.int .i64 (4)))), .one (ro 3 1 Tr.eI r)], [], .tup [.agg [.hd 0, .hd 1, .hd 2, (CV.lit (.int .i64 (k.Calls))), .hd 3], (SV.one (.lit (.bool (b))))], [(0, some (.row 33 1 (k.Machine.Frames.Cells.map eIntS))), (1, some (.row 4 1 (k.Machine.Frames.Used.map Tr.eB))), (2, some (.row 51 2 (k.Machine.Table.Entries.map eEntry))), (3, some (.row 3 1 (k.Refuse.map Tr.eI)))], [0, 1, 2, 3], []⟩
theorem fn_KNew16 (r : List Int) (k : GKernel) (b : Bool) (hr : r.length ≤ 1048576) (h : pKernelNew 4 4 r = (k, b)) : Fn Tryd.prog (c_KNew16 r k b) := by
  have h' := fn_KNew 4 4 r hr (szM7_ok m44o)
  unfold c_KNew at h'
  rw [h] at h'
  exact h'
def c_Cells16 (s : GSpan) (l : List Int) : CFD := ⟨63, [.agg [(CV.lit (.int .i64 (s.Page))), (CV.lit (.int .i64 (s.Class))), (CV.lit (.int .i64 (s.Bits)))]], [], .sv (.one (.hd 0)), [(0, some (.row 3 1 (l.map Tr.eI)))], [0], []⟩
theorem fn_Cells16 (s : GSpan) (l : List Int) (h : pSpanCells s = l) : Fn Tryd.prog (c_Cells16 s l) := by
  have h' := fn_SpanCells s
  unfold c_SpanCells at h'
  rw [h] at h'
  exact h'
theorem zKer16d : List.map CV.lit ti35.z.cells.toList = [.lit (.slice none 0 0), .lit (.slice none 0 0), .lit (.slice none 0 0), (CV.lit (.int .i64 (0))), .lit (.slice none 0 0)] := rfl
def c_Case16 (bs : List Int) (c : Cu) (r : DS) : CFD := ⟨24, [.one (.box 0 0)], [(0, some (.box 113 [ro 5 1 eU bs, (CV.lit (.int .i64 (((c).i : Int)))), (CV.lit (.int .i64 ((c).h)))]))], .tup [.agg [.hd 101, .hd 102, .hd 103, (CV.lit (.int .i64 (r.k.Calls))), .hd 104], .one (.hd 105)], [(0, some (.box 113 [ro 5 1 eU bs, (CV.lit (.int .i64 (((r.c).i : Int)))), (CV.lit (.int .i64 ((r.c).h)))])), (101, some (.row 33 1 (r.k.Machine.Frames.Cells.map eIntS))), (102, some (.row 4 1 (r.k.Machine.Frames.Used.map Tr.eB))), (103, some (.row 51 2 (r.k.Machine.Table.Entries.map eEntry))), (104, some (.row 3 1 (r.k.Refuse.map Tr.eI))), (105, some (.row 49 3 (r.ss.map eSpan)))], [101, 102, 103, 104, 105], []⟩
set_option maxHeartbeats 16000000 in
theorem fn_Case16 (bs : List Int) (c : Cu) (r : DS) (hc : okCu bs c) (h : dCase bs c = r) : Fn Tryd.prog (c_Case16 bs c r) := by
  obtain ⟨hI0, of, f0, fl4⟩ := d0_inv hc
  have hcl := dBelow_lt bs (dRef bs c).2 4 (by decide)
  have hT := pgS_inv hI0 hcl
  have hS : ∀ p, pgS bs (dBelow bs (dRef bs c).2 4).1 (d0 bs c) (p + 1) = pgStep bs (dBelow bs (dRef bs c).2 4).1 (pgS bs (dBelow bs (dRef bs c).2 4).1 (d0 bs c) p) p := fun _ => rfl
  have h0 : pgS bs (dBelow bs (dRef bs c).2 4).1 (d0 bs c) 0 = ⟨⟨(pMachineNew 4 4).1, 0, (dRef bs c).1⟩, [], (dBelow bs (dRef bs c).2 4).2⟩ := rfl
  unfold dCase at h
  obtain ⟨f, hf⟩ : ∃ f, dRef bs c = f := ⟨_, rfl⟩
  rw [hf] at of f0 fl4 hcl hT hS h0 h
  obtain ⟨g, hg⟩ : ∃ g, dBelow bs f.2 4 = g := ⟨_, rfl⟩
  rw [hg] at hcl hT hS h0 h
  obtain ⟨hkn, _, _⟩ := new44 (r := f.1) f0 (by omega)
  have hKN := fn_KNew16 f.1 _ true (by omega) hkn
  generalize (⟨(pMachineNew 4 4).1, 0, f.1⟩ : GKernel) = k0 at hKN h0
  generalize pgS bs g.1 (d0 bs c) = T at *
  subst h
  have hsl : Cl.slots g.1 ≤ 16 := (slots_bd g.1).2
  refine fn_intro tt_ok Tryd.func24 rfl Tryd.call24 Tryd.ntmps24 Tryd.results24 rfl rfl rfl rfl ?_
  intro X ρ0 hb_ hgl_
  dsimp only [c_Case16]
  try refine nrm ?_
  repeat' (refine ar_id ?_; first | refine st1 ?_ | (refine ar_run (id := 1) [.call (c_RefR16 bs c f), .call (c_KNew16 f.1 k0 true)] ?_; generalize hQ_ : kont _ _ _ _ = Q_; repeat' (first | (focus ((first | refine as_call3 tt_ok ?_ ?_ | refine as_sure3 tt_ok ?_ ?_ | refine as_cons3 tt_ok ?_ ?_); (try dsimp only [c_BelowR, c_KNew16, c_RefR16]); (try refine nrm ?_); rotate_left)) | (subst hQ_; refine as_nil ?_))) | (refine ar_run (id := 3) [.call (c_BelowR bs f.2 4 g)] ?_; generalize hQ_ : kont _ _ _ _ = Q_; repeat' (first | (focus ((first | refine as_call3 tt_ok ?_ ?_ | refine as_sure3 tt_ok ?_ ?_ | refine as_cons3 tt_ok ?_ ?_); (try dsimp only [c_BelowR, c_KNew16, c_RefR16]); (try refine nrm ?_); rotate_left)) | (subst hQ_; refine as_nil ?_))) | (first | ((first | refine ar_region tt_ok (inps := []) rfl ?_ ?_); rotate_left; (try dsimp only [c_BelowR, c_KNew16, c_RefR16]); (try refine nrm ?_); rotate_right) | refine ret3 ?_ | refine end3 ?_) | (refine ar_cond rfl trivial ?_ ?_ <;> intro hc_ <;> (try simp only [isNilI, inB, reduceCtorEq, cds] at hc_) <;> (try (first | contradiction | (exfalso; omega)))) | refine ar_until (And.intro ?_ (wk3 ?_)))
  all_goals (first | refine ar_id ?_ | (try (focus ((try refine nrmO ?_); (repeat' (first | exact True.intro | refine And.intro ?_ ?_)); all_goals (try (intro (hg_ : _ = true); (try simp only [isNilI, inB, reduceCtorEq, cds] at hg_); (repeat' (first | exact True.intro | refine And.intro ?_ ?_)))); all_goals (first | exact ob1 | exact fn_RefR16 _ _ _ hc hf | exact hKN | exact fn_BelowR _ _ _ _ of hg | skip)))))
  dsimp only [zKer16d]
  refine ar_blocks [0, 2, 4, 16000, 16001, 16002, 16003, 18] (by dsimp only [selB, hasN] <;> exact rfl) ?_
  refine ar_keep 4061 (by dsimp only [keepS] <;> exact rfl) ?_
  refine ar_forM (3) (fun p => True) (fun p => [(8, (TV.sv (.one (.lit (.int .i64 (p)))))), (6, (TV.sv (.one (.hd 18))))]) (fun p => [(4, some (.box 35 [.hd 16000, .hd 16001, .hd 16002, (CV.lit (.int .i64 (((T p).k).Calls))), .hd 16003])), (16000, some (.row 33 1 (((T p).k).Machine.Frames.Cells.map eIntS))), (16001, some (.row 4 1 (((T p).k).Machine.Frames.Used.map Tr.eB))), (16002, some (.row 51 2 (((T p).k).Machine.Table.Entries.map eEntry))), (16003, some (.row 3 1 (((T p).k).Refuse.map Tr.eI))), (18, some (.row 49 3 ((T p).ss.map eSpan))), (0, some ((.box 113 [ro 5 1 eU bs, (CV.lit (.int .i64 ((((T p).c).i : Int)))), (CV.lit (.int .i64 (((T p).c).h)))])))]) ?_ ?_ ?_
  rotate_left
  · first | trivial | simp
  (dsimp only [rnCap, capSVs, Int.toNat_natCast, ro, Nat.reduceAdd, Nat.reduceMul, Nat.zero_add, List.map, putT, app, wrapG, gOb, argT, keys, slotOf, dropped, gAnd, wB, rnT, rnS, rnC, rnCs, rnSs, rnM, rnB, rnN, rn, lk, St.over, ded, delL, keepT, menT, menSs, menS, menCs, menC, hasN, resT, SV.cells]; refine wk3 ?_; (focus ((try refine nrmO ?_); (repeat' (first | exact True.intro | refine And.intro ?_ ?_)); all_goals (try (intro (hg_ : _ = true); (try simp only [isNilI, inB, reduceCtorEq, cds] at hg_); (repeat' (first | exact True.intro | refine And.intro ?_ ?_)))); all_goals (first | exact ob1 | exact rfl | skip))))
  rotate_right
  intro p hp_ hpI_
  dsimp only [rnCap, capSVs, Int.toNat_natCast, ro, Nat.reduceAdd, Nat.reduceMul, Nat.zero_add, List.map, putT, app, wrapG, gOb, argT, keys, slotOf, dropped, gAnd, wB, rnT, rnS, rnC, rnCs, rnSs, rnM, rnB, rnN, rn, lk, St.over, ded, delL, keepT, menT, menSs, menS, menCs, menC, hasN, resT, SV.cells]
  by_cases hp3 : p < 3
  · have hIp := hT p (by omega)
    have hSp := hS p
    unfold pgStep at hSp
    have hok := szK8_ok hIp.ok
    have hca := hIp.calls
    have hca0 := hIp.ok.2.1.1
    have hnp := hIp.n
    by_cases hb : (pNew (T p).k (p : Int)).2 = true
    · obtain ⟨hcc, g1, g2, g3⟩ := pg_in hIp hp3 hcl hb
      have hnc := (new_step hcc (p : Int)).2.1
      have hsr := (new_step hcc (p : Int)).1
      rw [if_pos hb] at hSp
      have hspo := sp16_ok bs (T p) hp3 hcl
      have hcb := cells_bd (sp16 bs g.1 (T p) p)
      unfold k16 pt16 at hSp g2
      unfold sp16 at hSp g1 g2 hspo hcb
      obtain ⟨nk, hnk⟩ : ∃ nk, pNew (T p).k (p : Int) = (nk, true) := ⟨_, Prod.ext rfl hb⟩
      have hN := fn_New16 (T p).k (p : Int) nk true hok hca0 (by omega) hnk
      rw [hnk] at hSp g1 g2 g3 hnc hsr
      obtain ⟨m, hm⟩ : ∃ m, dMap bs (T p).c (Cl.slots g.1) = m := ⟨_, rfl⟩
      rw [hm] at hSp g1 g2 hspo hcb
      have hMp := fn_MapR bs (T p).c (Cl.slots g.1) m hIp.cu hsl hm
      obtain ⟨cells, hce⟩ : ∃ cells, pSpanCells ⟨(p : Int), g.1, m.1⟩ = cells := ⟨_, rfl⟩
      rw [hce] at hSp g1 g2 hcb
      have hCe := fn_Cells16 ⟨(p : Int), g.1, m.1⟩ cells hce
      have hcln : cells.length ≤ 16 := by rw [← hce]; unfold pSpanCells; split <;> first | exact inUse_len _ _ | exact Nat.zero_le _
      obtain ⟨V, hV⟩ : ∃ V, V = cpS bs (p : Int) cells (nk.Machine, m.2) := ⟨_, rfl⟩
      have hV0 : V 0 = (nk.Machine, m.2) := by rw [hV]; rfl
      have hVS : ∀ i, V (i + 1) = (setCellOf (V i).1 (pEntry (V i).1 (adr (p : Int) (cells.getD i 0))).1.Frame (pEntry (V i).1 (adr (p : Int) (cells.getD i 0))).2 (1 + (dBelow bs (V i).2 999).1), (dBelow bs (V i).2 999).2) := fun i => by rw [hV]; rfl
      rw [← hV] at hSp g1 g2
      clear hV
      dsimp only at hSp g1 g2 hnc g3 hsr
      repeat' (refine ar_id ?_; first | refine st1 ?_ | (refine ar_run (id := 7) [.call (c_New16 (T p).k (p : Int) nk true)] ?_; generalize hQ_ : kont _ _ _ _ = Q_; repeat' (first | (focus ((first | refine as_call3 tt_ok ?_ ?_ | refine as_sure3 tt_ok ?_ ?_ | refine as_cons3 tt_ok ?_ ?_); (try dsimp only [c_Cells16, c_MapR, c_New16, c_SlotsS]); (try refine nrm ?_); rotate_left)) | (subst hQ_; refine as_nil ?_))) | (refine ar_run (id := 8) [.call (c_SlotsS g.1), .call (c_MapR bs (T p).c (Cl.slots g.1) m)] ?_; generalize hQ_ : kont _ _ _ _ = Q_; repeat' (first | (focus ((first | refine as_call3 tt_ok ?_ ?_ | refine as_sure3 tt_ok ?_ ?_ | refine as_cons3 tt_ok ?_ ?_); (try dsimp only [c_Cells16, c_MapR, c_New16, c_SlotsS]); (try refine nrm ?_); rotate_left)) | (subst hQ_; refine as_nil ?_))) | (first | ((first | refine ar_region (id := 9) tt_ok (inps := [.call (c_Cells16 ⟨(p : Int), g.1, m.1⟩ cells)]) rfl ?_ ?_ | refine ar_region tt_ok (inps := []) rfl ?_ ?_); rotate_left; (try dsimp only [c_Cells16, c_MapR, c_New16, c_SlotsS]); (try refine nrm ?_); rotate_right) | refine ret3 ?_ | refine end3 ?_) | (refine ar_cond rfl trivial ?_ ?_ <;> intro hc_ <;> (try simp only [isNilI, inB, reduceCtorEq, cds] at hc_) <;> (try (first | contradiction | (exfalso; omega)))) | refine ar_until (And.intro ?_ (wk3 ?_)))
      all_goals (first | refine ar_id ?_ | (try (focus ((try refine nrmO ?_); (repeat' (first | exact True.intro | refine And.intro ?_ ?_)); all_goals (try (intro (hg_ : _ = true); (try simp only [isNilI, inB, reduceCtorEq, cds] at hg_); (repeat' (first | exact True.intro | refine And.intro ?_ ?_)))); all_goals (first | exact ob1 | exact hN | exact fn_SlotsS _ | exact hMp | exact hCe | skip)))))
      refine ar_blocks [0, 2, 4, 9, 16000, 16001, 16002, 16003, 18, 37000] (by dsimp only [selB, hasN] <;> exact rfl) ?_
      refine ar_keep 4061 (by dsimp only [keepS] <;> exact rfl) ?_
      refine ar_forM (cells.length) (fun j => True) (fun j => [(11, (TV.sv (.one (.lit (.int .i64 (j))))))]) (fun j => [(4, some (.box 35 [.hd 16000, .hd 16001, .hd 16002, (CV.lit (.int .i64 ((⟨(V j).1, nk.Calls, nk.Refuse⟩ : GKernel).Calls))), .hd 16003])), (16000, some (.row 33 1 ((⟨(V j).1, nk.Calls, nk.Refuse⟩ : GKernel).Machine.Frames.Cells.map eIntS))), (16001, some (.row 4 1 ((⟨(V j).1, nk.Calls, nk.Refuse⟩ : GKernel).Machine.Frames.Used.map Tr.eB))), (16002, some (.row 51 2 ((⟨(V j).1, nk.Calls, nk.Refuse⟩ : GKernel).Machine.Table.Entries.map eEntry))), (16003, some (.row 3 1 ((⟨(V j).1, nk.Calls, nk.Refuse⟩ : GKernel).Refuse.map Tr.eI))), (0, some ((.box 113 [ro 5 1 eU bs, (CV.lit (.int .i64 ((((V j).2).i : Int)))), (CV.lit (.int .i64 (((V j).2).h)))])))]) ?_ ?_ ?_
      rotate_left
      · first | trivial | simp
      (dsimp only [rnCap, capSVs, Int.toNat_natCast, ro, Nat.reduceAdd, Nat.reduceMul, Nat.zero_add, List.map, putT, app, wrapG, gOb, argT, keys, slotOf, dropped, gAnd, wB, rnT, rnS, rnC, rnCs, rnSs, rnM, rnB, rnN, rn, lk, St.over, ded, delL, keepT, menT, menSs, menS, menCs, menC, hasN, resT, SV.cells]; refine wk3 ?_; (focus ((try refine nrmO ?_); (repeat' (first | exact True.intro | refine And.intro ?_ ?_)); all_goals (try (intro (hg_ : _ = true); (try simp only [isNilI, inB, reduceCtorEq, cds] at hg_); (repeat' (first | exact True.intro | refine And.intro ?_ ?_)))); all_goals (first | exact ob1 | exact rfl | skip))))
      rotate_right
      intro j hj_ hjI_
      dsimp only [rnCap, capSVs, Int.toNat_natCast, ro, Nat.reduceAdd, Nat.reduceMul, Nat.zero_add, List.map, putT, app, wrapG, gOb, argT, keys, slotOf, dropped, gAnd, wB, rnT, rnS, rnC, rnCs, rnSs, rnM, rnB, rnN, rn, lk, St.over, ded, delL, keepT, menT, menSs, menS, menCs, menC, hasN, resT, SV.cells]
      · obtain ⟨g4, g5, g6⟩ := g1 j hj_
        by_cases hjl : j < cells.length
        · have hxi := hcb _ (getD_in (l := cells) (i := j) (d := 0) hjl)
          obtain ⟨v, hv⟩ : ∃ v, dBelow bs (V j).2 999 = v := ⟨_, rfl⟩
          have hvb := dBelow_lt bs (V j).2 999 (by decide)
          have hVj := hVS j
          rw [hv] at hVj hvb
          have hmd : (pEntry (V j).1 (adr (p : Int) (cells.getD j 0))).1.Mode = 2 := by rw [pEntry_adr _ (by omega) hxi, g5]; exact g3
          have hSt := fn_Store7 (V j).1 (adr (p : Int) (cells.getD j 0)) (1 + v.1) (szM7_ok g4) (by unfold adr; omega) ⟨g4, by rw [hmd]; decide⟩ hmd (by omega)
          obtain ⟨m2, hm2⟩ : ∃ m2, setCellOf (V j).1 (pEntry (V j).1 (adr (p : Int) (cells.getD j 0))).1.Frame (pEntry (V j).1 (adr (p : Int) (cells.getD j 0))).2 (1 + v.1) = m2 := ⟨_, rfl⟩
          rw [hm2] at hSt hVj
          have hB := fn_BelowR bs (V j).2 999 v g6 hv
          unfold adr at hSt
          repeat' (refine ar_id ?_; first | refine st1 ?_ | (refine ar_drawS (id := 13) tt_ok (by kernel_rfl) [.elem (eI (cells.getD j 0)), .call (c_BelowR bs (V j).2 999 v), .call (c_Store7 (V j).1 ((p : Int) * 16 + cells.getD j 0) (1 + v.1) m2)] ?_; refine ed_hide ?_; intro K_ hK_; repeat' (first | ((first | refine ed_call3 ?_ | refine ed_sure3 ?_ | refine ed_cons3 ?_); refine ed_hide ?_; intro K_ hK_; (try dsimp only [c_BelowR, c_Store7]); (try refine nrmE ?_)) | (refine ed_nil ?_; (repeat subst hK_); dsimp only; refine Exists.intro _ (And.intro rfl (And.intro (by kernel_rfl) (And.intro ?_ ?_))); rotate_left; (try dsimp only [c_BelowR, c_Store7]); (try refine nrm ?_); rotate_right))) | (first | ((first | refine ar_region tt_ok (inps := []) rfl ?_ ?_); rotate_left; (try dsimp only [c_BelowR, c_Store7]); (try refine nrm ?_); rotate_right) | refine ret3 ?_ | refine end3 ?_) | (refine ar_cond rfl trivial ?_ ?_ <;> intro hc_ <;> (try simp only [isNilI, inB, reduceCtorEq, cds] at hc_) <;> (try (first | contradiction | (exfalso; omega) | (exfalso; omega)))) | refine ar_until (And.intro ?_ (wk3 ?_)))
          all_goals (first | refine ar_id ?_ | (try (focus ((try refine nrmO ?_); (repeat' (first | exact True.intro | refine And.intro ?_ ?_)); all_goals (try (intro (hg_ : _ = true); (try simp only [isNilI, inB, reduceCtorEq, cds] at hg_); (repeat' (first | exact True.intro | refine And.intro ?_ ?_)))); all_goals (first | exact ob1 | exact hB | exact hSt | exact map_at hjl | exact i64_ok (by omega) (by omega) | skip)))))
          all_goals first | (rw [hVj]; done) | trace_state
        · have hje : j = cells.length := by omega
          subst hje
          obtain ⟨o, ho⟩ : ∃ o, dBelow bs (V cells.length).2 4 = o := ⟨_, rfl⟩
          rw [ho] at hSp
          have hO := fn_OnceR bs (V cells.length).2 4 o g6 ho
          by_cases h4 : o.1 = 0
          · rw [if_pos h4] at hSp
            obtain ⟨⟨k3, b3⟩, hk3⟩ : ∃ r, pProtect ⟨(V cells.length).1, nk.Calls, nk.Refuse⟩ (p : Int) 1 = r := ⟨_, rfl⟩
            have hP := fn_Prot16 _ _ _ _ _ (szK8_ok g2) g2.2.1.1 (by show nk.Calls < 100000; omega) hk3
            rw [hk3] at hSp
            repeat' (refine ar_id ?_; first | refine st1 ?_ | (refine ar_run (id := 15) [.call (c_OnceR bs (V cells.length).2 4 o)] ?_; generalize hQ_ : kont _ _ _ _ = Q_; repeat' (first | (focus ((first | refine as_call3 tt_ok ?_ ?_ | refine as_sure3 tt_ok ?_ ?_ | refine as_cons3 tt_ok ?_ ?_); (try dsimp only [c_OnceR, c_Prot16]); (try refine nrm ?_); rotate_left)) | (subst hQ_; refine as_nil ?_))) | (refine ar_run (id := 16) [.call (c_Prot16 ⟨(V cells.length).1, nk.Calls, nk.Refuse⟩ (p : Int) 1 k3 b3)] ?_; generalize hQ_ : kont _ _ _ _ = Q_; repeat' (first | (focus ((first | refine as_call3 tt_ok ?_ ?_ | refine as_sure3 tt_ok ?_ ?_ | refine as_cons3 tt_ok ?_ ?_); (try dsimp only [c_OnceR, c_Prot16]); (try refine nrm ?_); rotate_left)) | (subst hQ_; refine as_nil ?_))) | (first | ((first | refine ar_region tt_ok (inps := []) rfl ?_ ?_); rotate_left; (try dsimp only [c_OnceR, c_Prot16]); (try refine nrm ?_); rotate_right) | refine ret3 ?_ | refine end3 ?_) | (refine ar_cond rfl trivial ?_ ?_ <;> intro hc_ <;> (try simp only [isNilI, inB, reduceCtorEq, cds] at hc_) <;> (try (first | contradiction | (exfalso; omega) | (exfalso; omega)))) | refine ar_until (And.intro ?_ (wk3 ?_)))
            all_goals (first | refine ar_id ?_ | (try (focus ((try refine nrmO ?_); (repeat' (first | exact True.intro | refine And.intro ?_ ?_)); all_goals (try (intro (hg_ : _ = true); (try simp only [isNilI, inB, reduceCtorEq, cds] at hg_); (repeat' (first | exact True.intro | refine And.intro ?_ ?_)))); all_goals (first | exact ob1 | exact hO | exact hP | skip)))))
            all_goals first | (rw [hSp]; done) | (rw [hSp, List.map_append, app_eq]; rfl) | trace_state
          · rw [if_neg h4] at hSp
            repeat' (refine ar_id ?_; first | refine st1 ?_ | (refine ar_run (id := 15) [.call (c_OnceR bs (V cells.length).2 4 o)] ?_; generalize hQ_ : kont _ _ _ _ = Q_; repeat' (first | (focus ((first | refine as_call3 tt_ok ?_ ?_ | refine as_sure3 tt_ok ?_ ?_ | refine as_cons3 tt_ok ?_ ?_); (try dsimp only [c_OnceR]); (try refine nrm ?_); rotate_left)) | (subst hQ_; refine as_nil ?_))) | (first | ((first | refine ar_region tt_ok (inps := []) rfl ?_ ?_); rotate_left; (try dsimp only [c_OnceR]); (try refine nrm ?_); rotate_right) | refine ret3 ?_ | refine end3 ?_) | (refine ar_cond rfl trivial ?_ ?_ <;> intro hc_ <;> (try simp only [isNilI, inB, reduceCtorEq, cds] at hc_) <;> (try (first | contradiction | (exfalso; omega) | (exfalso; omega)))) | refine ar_until (And.intro ?_ (wk3 ?_)))
            all_goals (first | refine ar_id ?_ | (try (focus ((try refine nrmO ?_); (repeat' (first | exact True.intro | refine And.intro ?_ ?_)); all_goals (try (intro (hg_ : _ = true); (try simp only [isNilI, inB, reduceCtorEq, cds] at hg_); (repeat' (first | exact True.intro | refine And.intro ?_ ?_)))); all_goals (first | exact ob1 | exact hO | skip)))))
            all_goals first | (rw [hSp]; done) | (rw [hSp, List.map_append, app_eq]; rfl) | trace_state
      all_goals first | (rw [hV0] <;> rfl) | trace_state
    · rw [if_neg hb] at hSp
      obtain ⟨nk, hnk⟩ : ∃ nk, pNew (T p).k (p : Int) = (nk, false) := ⟨_, Prod.ext rfl (by simpa using hb)⟩
      have hN := fn_New16 (T p).k (p : Int) nk false hok hca0 (by omega) hnk
      rw [hnk] at hSp
      repeat' (refine ar_id ?_; first | refine st1 ?_ | (refine ar_run (id := 7) [.call (c_New16 (T p).k (p : Int) nk false)] ?_; generalize hQ_ : kont _ _ _ _ = Q_; repeat' (first | (focus ((first | refine as_call3 tt_ok ?_ ?_ | refine as_sure3 tt_ok ?_ ?_ | refine as_cons3 tt_ok ?_ ?_); (try dsimp only [c_New16]); (try refine nrm ?_); rotate_left)) | (subst hQ_; refine as_nil ?_))) | (first | ((first | refine ar_region tt_ok (inps := []) rfl ?_ ?_); rotate_left; (try dsimp only [c_New16]); (try refine nrm ?_); rotate_right) | refine ret3 ?_ | refine end3 ?_) | (refine ar_cond rfl trivial ?_ ?_ <;> intro hc_ <;> (try simp only [isNilI, inB, reduceCtorEq, cds] at hc_) <;> (try (first | contradiction | (exfalso; omega)))) | refine ar_until (And.intro ?_ (wk3 ?_)))
      all_goals (first | refine ar_id ?_ | (try (focus ((try refine nrmO ?_); (repeat' (first | exact True.intro | refine And.intro ?_ ?_)); all_goals (try (intro (hg_ : _ = true); (try simp only [isNilI, inB, reduceCtorEq, cds] at hg_); (repeat' (first | exact True.intro | refine And.intro ?_ ?_)))); all_goals (first | exact ob1 | exact hN | skip)))))
      all_goals first | (rw [hSp]; done) | trace_state
  · have hpe : p = 3 := by omega
    subst hpe
    repeat' (refine ar_id ?_; first | refine st1 ?_ | (first | ((first | refine ar_region tt_ok (inps := []) rfl ?_ ?_); rotate_left; (try refine nrm ?_); rotate_right) | refine ret3 ?_ | refine end3 ?_) | (refine ar_cond rfl trivial ?_ ?_ <;> intro hc_ <;> (try simp only [isNilI, inB, reduceCtorEq, cds] at hc_) <;> (try (first | contradiction | (exfalso; omega) | (exfalso; omega)))) | refine ar_until (And.intro ?_ (wk3 ?_)))
    all_goals (first | refine ar_id ?_ | (try (focus ((try refine nrmO ?_); (repeat' (first | exact True.intro | refine And.intro ?_ ?_)); all_goals (try (intro (hg_ : _ = true); (try simp only [isNilI, inB, reduceCtorEq, cds] at hg_); (repeat' (first | exact True.intro | refine And.intro ?_ ?_)))); all_goals (first | exact ob1 | skip)))))
    all_goals trace_state
  all_goals first | (rw [h0] <;> rfl) | trace_state
end Eng
end Go.Proofs.YtgeakpeodhhffaaDoor
namespace Go.Proofs.YtgeakpeodhhffaaDoor
open Go.RowKit
set_option linter.unusedVariables false
set_option linter.unusedSimpArgs false
set_option maxRecDepth 100000
namespace Tr
theorem run_len (s : LSt) : ∀ l : List GLate, (lateRun s l).w.length ≤ s.w.length + l.length
  | l => by
    have h := run_waits l (linv_start s.k s.ss s.w)
    have e : (⟨s.k, s.ss, s.w⟩ : LSt) = s := rfl
    rw [e] at h
    rw [h, List.length_append]
    exact Nat.add_le_add_left (List.length_filter_le _ _) _
end Tr
namespace Eng
open Tr
theorem szK8_kept {k k' : GKernel} (h : szK8 k) (hk : Kept k k') : szK8 k' := by
  refine ⟨⟨by rw [hk.l]; exact h.m.c, by rw [hk.u]; exact h.m.u, fun r hr => ?_, by rw [hk.t]; exact h.m.e⟩, by rw [hk.f]; exact h.r⟩
  obtain ⟨i, hi⟩ := List.getElem?_of_mem hr
  have hil := (List.getElem?_eq_some_iff.1 hi).1
  have e : k'.Machine.Frames.Cells.getD i [] = r := by rw [List.getD_eq_getElem?_getD, hi]; rfl
  have := hk.r i
  rw [e] at this
  rw [this]
  rw [hk.l] at hil
  exact h.m.r _ (getD_in hil)
end Eng
end Go.Proofs.YtgeakpeodhhffaaDoor
namespace Go.Proofs.YtgeakpeodhhffaaDoor
open Go.RowKit
set_option linter.unusedVariables false
set_option linter.unusedSimpArgs false
set_option maxRecDepth 100000
namespace Eng
open Tr
def c_CloneLt (l : List GLate) : CFD := ⟨26, [.one (ro 43 2 eLate l)], [], .sv (.one (.hd 0)), [(0, some (.row 43 2 (l.map eLate)))], [0], []⟩
theorem fn_CloneLt (l : List GLate) (hl : l.length ≤ 1048576) : Fn Tryd.prog (c_CloneLt l) := by
  refine fn_intro tt_ok Tryd.func26 rfl Tryd.call26 Tryd.ntmps26 Tryd.results26 rfl rfl rfl rfl ?_
  intro X ρ0 hb_ hgl_
  dsimp only [c_CloneLt]
  try refine nrm ?_
  repeat' (refine ar_id ?_; first | refine st1 ?_ | (first | ((first | refine ar_region tt_ok (inps := []) rfl ?_ ?_); rotate_left; (try refine nrm ?_); rotate_right) | refine ret3 ?_ | refine end3 ?_) | (refine ar_cond rfl trivial ?_ ?_ <;> intro hc_ <;> (try simp only [isNilI, inB, reduceCtorEq, cds] at hc_) <;> (try (first | contradiction | (exfalso; omega)))) | refine ar_until (And.intro ?_ (wk3 ?_)))
  all_goals (first | refine ar_id ?_ | (try (focus ((try refine nrmO ?_); (repeat' (first | exact True.intro | refine And.intro ?_ ?_)); all_goals (try (intro (hg_ : _ = true); (try simp only [isNilI, inB, reduceCtorEq, cds] at hg_); (repeat' (first | exact True.intro | refine And.intro ?_ ?_)))); all_goals (first | exact ob1 | skip)))))
  refine ar_split (s := 0) rfl ?_ ?_
  · intro hn hc
    repeat' (refine ar_id ?_; first | refine st1 ?_ | (first | ((first | refine ar_region tt_ok (inps := []) rfl ?_ ?_); rotate_left; (try refine nrm ?_); rotate_right) | refine ret3 ?_ | refine end3 ?_) | (refine ar_cond rfl trivial ?_ ?_ <;> intro hc_ <;> (try simp only [isNilI, inB, reduceCtorEq, cds] at hc_) <;> (try (first | contradiction | (exfalso; omega)))) | refine ar_until (And.intro ?_ (wk3 ?_)))
    all_goals (first | refine ar_id ?_ | (try (focus ((try refine nrmO ?_); (repeat' (first | exact True.intro | refine And.intro ?_ ?_)); all_goals (try (intro (hg_ : _ = true); (try simp only [isNilI, inB, reduceCtorEq, cds] at hg_); (repeat' (first | exact True.intro | refine And.intro ?_ ?_)))); all_goals (first | exact ob1 | skip)))))
    refine ar_nil (s := 2) (T := 43) (q := 2) (r := 90000) rfl rfl ?_
    repeat' (refine ar_id ?_; first | refine st1 ?_ | (first | ((first | refine ar_region tt_ok (inps := []) rfl ?_ ?_); rotate_left; (try refine nrm ?_); rotate_right) | refine ret3 ?_ | refine end3 ?_) | (refine ar_cond rfl trivial ?_ ?_ <;> intro hc_ <;> (try simp only [isNilI, inB, reduceCtorEq, cds] at hc_) <;> (try (first | contradiction | (exfalso; omega)))) | refine ar_until (And.intro ?_ (wk3 ?_)))
    all_goals (first | refine ar_id ?_ | (try (focus ((try refine nrmO ?_); (repeat' (first | exact True.intro | refine And.intro ?_ ?_)); all_goals (try (intro (hg_ : _ = true); (try simp only [isNilI, inB, reduceCtorEq, cds] at hg_); (repeat' (first | exact True.intro | refine And.intro ?_ ?_)))); all_goals (first | exact ob1 | skip)))))
    rw [List.length_eq_zero_iff.1 hn]; rfl
  · intro ad cap hr
    repeat' (refine ar_id ?_; first | refine st1 ?_ | (first | ((first | refine ar_region tt_ok (inps := []) rfl ?_ ?_); rotate_left; (try refine nrm ?_); rotate_right) | refine ret3 ?_ | refine end3 ?_) | (refine ar_cond rfl trivial ?_ ?_ <;> intro hc_ <;> (try simp only [isNilI, inB, reduceCtorEq, cds] at hc_) <;> (try (first | contradiction | (exfalso; omega)))) | refine ar_until (And.intro ?_ (wk3 ?_)))
    all_goals (first | refine ar_id ?_ | (try (focus ((try refine nrmO ?_); (repeat' (first | exact True.intro | refine And.intro ?_ ?_)); all_goals (try (intro (hg_ : _ = true); (try simp only [isNilI, inB, reduceCtorEq, cds] at hg_); (repeat' (first | exact True.intro | refine And.intro ?_ ?_)))); all_goals (first | exact ob1 | skip)))))
    refine ar_read (s := 0) hr rfl ?_
    repeat' (refine ar_id ?_; first | refine st1 ?_ | (first | ((first | refine ar_region (id := 3) tt_ok (inps := [.elems (l.map eLate)]) rfl ?_ ?_ | refine ar_region tt_ok (inps := []) rfl ?_ ?_); rotate_left; (try refine nrm ?_); rotate_right) | refine ret3 ?_ | refine end3 ?_) | (refine ar_cond rfl trivial ?_ ?_ <;> intro hc_ <;> (try simp only [isNilI, inB, reduceCtorEq, cds] at hc_) <;> (try (first | contradiction | (exfalso; omega)))) | refine ar_until (And.intro ?_ (wk3 ?_)))
    all_goals (first | refine ar_id ?_ | (try (focus ((try refine nrmO ?_); (repeat' (first | exact True.intro | refine And.intro ?_ ?_)); all_goals (try (intro (hg_ : _ = true); (try simp only [isNilI, inB, reduceCtorEq, cds] at hg_); (repeat' (first | exact True.intro | refine And.intro ?_ ?_)))); all_goals (first | exact ob1 | exact flat_map' l (fun x => ⟨rfl, rfl, rfl, trivial⟩) | exact (by simp only [lns]; omega) | exact (by simp) | skip)))))
/-- where a free stands first -/
def idxT (x : GLate) : Nat → List GLate → Int
  | _, [] => -1
  | i, y :: l => if y = x then (i : Int) else idxT x (i + 1) l
theorem idxT_skip (x : GLate) : ∀ (i : Nat) (a b : List GLate), (∀ u ∈ a, u ≠ x) → idxT x i (a ++ b) = idxT x (i + a.length) b
  | _, [], _, _ => rfl
  | i, u :: a, b, h => by
    show (if u = x then _ else idxT x (i + 1) (a ++ b)) = _
    rw [if_neg (h u (by simp)), idxT_skip x (i + 1) a b (fun v hv => h v (by simp [hv])), List.length_cons, show i + 1 + a.length = i + (a.length + 1) by omega]
theorem idxT_hit (x : GLate) (l : List GLate) (i : Nat) (h : l[i]? = some x) (ha : ∀ u ∈ l.take i, u ≠ x) : idxT x 0 l = (i : Int) := by
  have hi : i < l.length := (List.getElem?_eq_some_iff.1 h).1
  have e : l = l.take i ++ (x :: l.drop (i + 1)) := by
    have h1 : l.drop i = x :: l.drop (i + 1) := by
      rw [List.drop_eq_getElem_cons hi]
      rw [List.getElem?_eq_getElem hi] at h
      rw [Option.some.inj h]
    rw [← h1, List.take_append_drop]
  rw [e, idxT_skip x 0 _ _ ha, List.length_take, Nat.min_eq_left (by omega), Nat.zero_add]
  exact if_pos rfl
theorem idxT_none (x : GLate) (l : List GLate) (ha : ∀ u ∈ l, u ≠ x) : idxT x 0 l = -1 := by
  have := idxT_skip x 0 l [] ha
  rw [List.append_nil] at this
  rw [this]; rfl
theorem idxT_lt (x : GLate) : ∀ (i : Nat) (l : List GLate), (idxT x i l = -1 ∧ x ∉ l) ∨ ∃ j : Nat, j < l.length ∧ idxT x i l = ((i + j : Nat) : Int) ∧ x ∈ l
  | _, [] => .inl ⟨rfl, by simp⟩
  | i, u :: l => by
    unfold idxT
    by_cases hu : u = x
    · exact .inr ⟨0, by simp, by rw [if_pos hu]; rfl, by simp [hu]⟩
    · rw [if_neg hu]
      rcases idxT_lt x (i + 1) l with ⟨h1, h2⟩ | ⟨j, h1, h2, h3⟩
      · exact .inl ⟨h1, by simp [h2, Ne.symm hu]⟩
      · exact .inr ⟨j + 1, by simp; omega, by rw [h2]; congr 1; omega, by simp [h3]⟩
def c_IndexT (l : List GLate) (x : GLate) : CFD := ⟨67, [.one (ro 43 2 eLate l), .agg [(CV.lit (.int .i64 (x.Index))), (CV.lit (.int .i64 (x.Slot)))]], [], (TV.sv (.one (.lit (.int .i64 (idxT x 0 l))))), [], [], []⟩
theorem fn_IndexT (l : List GLate) (x : GLate) (hl : l.length ≤ 1048576) : Fn Tryd.prog (c_IndexT l x) := by
  refine fn_intro tt_ok Tryd.func67 rfl Tryd.call67 Tryd.ntmps67 Tryd.results67 rfl rfl rfl rfl ?_
  intro X ρ0 hb_ hgl_
  dsimp only [c_IndexT]
  try refine nrm ?_
  repeat' (refine ar_id ?_; first | refine st1 ?_ | (first | ((first | refine ar_region tt_ok (inps := []) rfl ?_ ?_); rotate_left; (try refine nrm ?_); rotate_right) | refine ret3 ?_ | refine end3 ?_) | (refine ar_cond rfl trivial ?_ ?_ <;> intro hc_ <;> (try simp only [isNilI, inB, reduceCtorEq, cds] at hc_) <;> (try (first | contradiction | (exfalso; omega)))) | refine ar_until (And.intro ?_ (wk3 ?_)))
  all_goals (first | refine ar_id ?_ | (try (focus ((try refine nrmO ?_); (repeat' (first | exact True.intro | refine And.intro ?_ ?_)); all_goals (try (intro (hg_ : _ = true); (try simp only [isNilI, inB, reduceCtorEq, cds] at hg_); (repeat' (first | exact True.intro | refine And.intro ?_ ?_)))); all_goals (first | exact ob1 | skip)))))
  refine ar_keep 443 (by dsimp only [keepS] <;> exact rfl) ?_
  refine ar_forM (l.length) (fun i => ∀ u ∈ l.take i, u ≠ x) (fun i => [(8, (TV.sv (.one (.lit (.int .i64 (i))))))]) (fun i => []) ?_ ?_ ?_
  rotate_left
  · first | trivial | simp
  (dsimp only [rnCap, capSVs, Int.toNat_natCast, ro, Nat.reduceAdd, Nat.reduceMul, Nat.zero_add, List.map, putT, app, wrapG, gOb, argT, keys, slotOf, dropped, gAnd, wB, rnT, rnS, rnC, rnCs, rnSs, rnM, rnB, rnN, rn, lk, St.over, ded, delL, keepT, menT, menSs, menS, menCs, menC, hasN, resT, SV.cells]; refine wk3 ?_; (focus ((try refine nrmO ?_); (repeat' (first | exact True.intro | refine And.intro ?_ ?_)); all_goals (try (intro (hg_ : _ = true); (try simp only [isNilI, inB, reduceCtorEq, cds] at hg_); (repeat' (first | exact True.intro | refine And.intro ?_ ?_)))); all_goals (first | exact ob1 | exact rfl | skip))))
  rotate_right
  intro i hi_ hiI_
  dsimp only [rnCap, capSVs, Int.toNat_natCast, ro, Nat.reduceAdd, Nat.reduceMul, Nat.zero_add, List.map, putT, app, wrapG, gOb, argT, keys, slotOf, dropped, gAnd, wB, rnT, rnS, rnC, rnCs, rnSs, rnM, rnB, rnN, rn, lk, St.over, ded, delL, keepT, menT, menSs, menS, menCs, menC, hasN, resT, SV.cells]
  repeat' (refine ar_id ?_; first | refine st1 ?_ | (first | ((first | refine ar_draw (id := 4) (inps := [.elem (eLate (l.getD i noLt))]) tt_ok (by kernel_rfl) rfl rfl (by kernel_rfl) rfl rfl rfl rfl ?_ ?_ | refine ar_region tt_ok (inps := []) rfl ?_ ?_); rotate_left; (try refine nrm ?_); rotate_right) | refine ret3 ?_ | refine end3 ?_) | (refine ar_cond rfl trivial ?_ ?_ <;> intro hc_ <;> (try simp only [isNilI, inB, reduceCtorEq, cds] at hc_) <;> (try (first | contradiction | (exfalso; omega)))) | refine ar_until (And.intro ?_ (wk3 ?_)))
  all_goals (first | refine ar_id ?_ | (try (focus ((try refine nrmO ?_); (repeat' (first | exact True.intro | refine And.intro ?_ ?_)); all_goals (try (intro (hg_ : _ = true); (try simp only [isNilI, inB, reduceCtorEq, cds] at hg_); (repeat' (first | exact True.intro | refine And.intro ?_ ?_)))); all_goals (first | exact ob1 | skip)))))
  · have e : l.getD i noLt = x := by obtain ⟨h1, h2⟩ := hc_; cases hh : l.getD i noLt; rw [hh] at h1 h2; cases x; simp_all
    exact congrArg (Value.int .i64) (idxT_hit x l i (by rw [← e]; exact getD_at (by omega)) hiI_).symm
  · refine all_take (d := noLt) hiI_ (by omega) (fun e => ?_)
    rw [e] at hc_
    simp at hc_
  · exact congrArg (Value.int .i64) (idxT_none x l (all_full (p := fun u => u ≠ x) hiI_ (by omega))).symm
def c_ContainsT (l : List GLate) (x : GLate) : CFD := ⟨27, [.one (ro 43 2 eLate l), .agg [(CV.lit (.int .i64 (x.Index))), (CV.lit (.int .i64 (x.Slot)))]], [], (TV.sv (.one (.lit (.bool (decide (x ∈ l)))))), [], [], []⟩
theorem fn_ContainsT (l : List GLate) (x : GLate) (hl : l.length ≤ 1048576) : Fn Tryd.prog (c_ContainsT l x) := by
  refine fn_intro tt_ok Tryd.func27 rfl Tryd.call27 Tryd.ntmps27 Tryd.results27 rfl rfl rfl rfl ?_
  intro X ρ0 hb_ hgl_
  dsimp only [c_ContainsT]
  try refine nrm ?_
  repeat' (refine ar_id ?_; first | refine st1 ?_ | (first | ((first | refine ar_region (id := 1) tt_ok (inps := [.call (c_IndexT l x)]) rfl ?_ ?_ | refine ar_region tt_ok (inps := []) rfl ?_ ?_); rotate_left; (try dsimp only [c_IndexT]); (try refine nrm ?_); rotate_right) | refine ret3 ?_ | refine end3 ?_) | (refine ar_cond rfl trivial ?_ ?_ <;> intro hc_ <;> (try simp only [isNilI, inB, reduceCtorEq, cds] at hc_) <;> (try (first | contradiction | (exfalso; omega)))) | refine ar_until (And.intro ?_ (wk3 ?_)))
  all_goals (first | refine ar_id ?_ | (try (focus ((try refine nrmO ?_); (repeat' (first | exact True.intro | refine And.intro ?_ ?_)); all_goals (try (intro (hg_ : _ = true); (try simp only [isNilI, inB, reduceCtorEq, cds] at hg_); (repeat' (first | exact True.intro | refine And.intro ?_ ?_)))); all_goals (first | exact ob1 | exact fn_IndexT _ _ hl | skip)))))
  refine congrArg Value.bool ?_
  rw [decide_eq_decide]
  rcases idxT_lt x 0 l with ⟨h1, h2⟩ | ⟨j, h1, h2, h3⟩
  · exact ⟨fun h => absurd h (by omega), fun h => absurd h h2⟩
  · exact ⟨fun _ => h3, fun _ => by omega⟩
def c_LAddI (l : List GLate) (x : GLate) (r : List GLate) (b : Bool) : CFD := ⟨8, [.one (ro 43 2 eLate l), .agg [(CV.lit (.int .i64 (x.Index))), (CV.lit (.int .i64 (x.Slot)))]], [], .tup [.one (.hd 0), (SV.one (.lit (.bool (b))))], [(0, some (.row 43 2 (r.map eLate)))], [0], []⟩
theorem fn_LAddI (l : List GLate) (x : GLate) (r : List GLate) (b : Bool) (hl : l.length ≤ 1048576) (h : pLateAdd l x = (r, b)) : Fn Tryd.prog (c_LAddI l x r b) := by
  by_cases hc : x ∈ l ∨ 40 ≤ l.length
  · unfold pLateAdd at h
    rw [if_pos hc] at h
    obtain ⟨rfl, rfl⟩ := Prod.mk.inj h
    refine fn_intro tt_ok Tryd.func8 rfl Tryd.call8 Tryd.ntmps8 Tryd.results8 rfl rfl rfl rfl ?_
    intro X ρ0 hb_ hgl_
    dsimp only [c_LAddI]
    try refine nrm ?_
    repeat' (refine ar_id ?_; first | refine st1 ?_ | (first | ((first | refine ar_region (id := 1) tt_ok (inps := [.call (c_CloneLt l)]) rfl ?_ ?_ | refine ar_region (id := 2) tt_ok (inps := [.call (c_ContainsT l x)]) rfl ?_ ?_ | refine ar_region tt_ok (inps := []) rfl ?_ ?_); rotate_left; (try dsimp only [c_CloneLt, c_ContainsT]); (try refine nrm ?_); rotate_right) | refine ret3 ?_ | refine end3 ?_) | (refine ar_cond rfl trivial ?_ ?_ <;> intro hc_ <;> (try simp only [isNilI, inB, reduceCtorEq, cds] at hc_) <;> (try (first | contradiction | (exfalso; omega) | (exfalso; exact hc.elim (fun h => hc_.1 h) (fun h => by omega))))) | refine ar_until (And.intro ?_ (wk3 ?_)))
    all_goals (first | refine ar_id ?_ | (try (focus ((try refine nrmO ?_); (repeat' (first | exact True.intro | refine And.intro ?_ ?_)); all_goals (try (intro (hg_ : _ = true); (try simp only [isNilI, inB, reduceCtorEq, cds] at hg_); (repeat' (first | exact True.intro | refine And.intro ?_ ?_)))); all_goals (first | exact ob1 | exact fn_CloneLt _ hl | exact fn_ContainsT _ _ hl | skip)))))
    all_goals trace_state
  · unfold pLateAdd at h
    rw [if_neg hc] at h
    obtain ⟨rfl, rfl⟩ := Prod.mk.inj h
    refine fn_intro tt_ok Tryd.func8 rfl Tryd.call8 Tryd.ntmps8 Tryd.results8 rfl rfl rfl rfl ?_
    intro X ρ0 hb_ hgl_
    dsimp only [c_LAddI]
    try refine nrm ?_
    repeat' (refine ar_id ?_; first | refine st1 ?_ | (first | ((first | refine ar_region (id := 1) tt_ok (inps := [.call (c_CloneLt l)]) rfl ?_ ?_ | refine ar_region (id := 2) tt_ok (inps := [.call (c_ContainsT l x)]) rfl ?_ ?_ | refine ar_region tt_ok (inps := []) rfl ?_ ?_); rotate_left; (try dsimp only [c_CloneLt, c_ContainsT]); (try refine nrm ?_); rotate_right) | refine ret3 ?_ | refine end3 ?_) | (refine ar_cond rfl trivial ?_ ?_ <;> intro hc_ <;> (try simp only [isNilI, inB, reduceCtorEq, cds] at hc_) <;> (try (first | contradiction | (exfalso; omega) | (exfalso; exact hc (hc_.imp id (fun h => by omega)))))) | refine ar_until (And.intro ?_ (wk3 ?_)))
    all_goals (first | refine ar_id ?_ | (try (focus ((try refine nrmO ?_); (repeat' (first | exact True.intro | refine And.intro ?_ ?_)); all_goals (try (intro (hg_ : _ = true); (try simp only [isNilI, inB, reduceCtorEq, cds] at hg_); (repeat' (first | exact True.intro | refine And.intro ?_ ?_)))); all_goals (first | exact ob1 | exact fn_CloneLt _ hl | exact fn_ContainsT _ _ hl | skip)))))
    all_goals (rw [app_eq, List.map_append]; rfl)
end Eng
end Go.Proofs.YtgeakpeodhhffaaDoor
namespace Go.Proofs.YtgeakpeodhhffaaDoor
open Go.RowKit
set_option linter.unusedVariables false
set_option linter.unusedSimpArgs false
set_option maxRecDepth 100000
namespace Eng
open Tr
theorem szK_from16 {k : GKernel} (h : szK8 k) : szK k := ⟨⟨h.m.c, h.m.u, h.m.r, h.m.e⟩, h.r⟩
def c_code (t : Tb) (k : GKernel) (s : GSpan) (slot e : Int) : CFD := ⟨42, [.agg [ro 33 1 eIntS k.Machine.Frames.Cells, ro 4 1 Tr.eB k.Machine.Frames.Used, ro 51 2 eEntry k.Machine.Table.Entries, (CV.lit (.int .i64 (k.Calls))), ro 3 1 Tr.eI k.Refuse], .agg [(CV.lit (.int .i64 (s.Page))), (CV.lit (.int .i64 (s.Class))), (CV.lit (.int .i64 (s.Bits)))], (SV.one (.lit (.int .i64 (slot))))], [], (TV.sv (.one (.lit (.int .i64 (e))))), [], [], t.both⟩
set_option maxHeartbeats 2000000 in
theorem fn_code (t : Tb) (k : GKernel) (s : GSpan) (slot e : Int) (hs : szK8 k) (h : frCode k s slot = e) : Fn Tryd.prog (c_code t k s slot e) := by
  have hen := hs.m.e
  obtain ⟨E, hE⟩ : ∃ E, pPageEntry k.Machine.Table s.Page = E := ⟨_, rfl⟩
  have hm : modeOf k s.Page = E.Mode := by unfold modeOf; rw [hE]
  have hP := fn_PageEntryI k.Machine.Table s.Page hen
  unfold c_PageEntryI at hP
  rw [hE] at hP
  rcases fr_cases k s slot with ⟨hc, h1⟩ | ⟨hc, h1, h2⟩ | ⟨hc, h1, h2, h3⟩ | ⟨hc, h1, h2, h3, h4⟩
  · obtain rfl := hc.symm.trans h
    by_cases h5 : pSpanOk s = true
    · have hb := bits_bd h5
      have hG : (!(!pSpanOk s)) = true := by rw [h5]; rfl
      refine fn_intro tt_ok Tryd.func42 rfl Tryd.call42 Tryd.ntmps42 Tryd.results42 rfl rfl rfl rfl ?_
      intro X ρ0 hb_ hgl_
      dsimp only [c_code]
      try refine nrm ?_
      repeat' (refine ar_id ?_; first | refine st1 ?_ | (first | ((first | refine ar_region (id := 1) tt_ok (inps := [.call (⟨82, [.agg [ro 51 2 eEntry k.Machine.Table.Entries], (SV.one (.lit (.int .i64 (s.Page))))], [], .sv (.agg [(CV.lit (.int .i64 (E.Mode))), (CV.lit (.int .i64 (E.Frame)))]), [], [], []⟩)]) rfl ?_ ?_ | refine ar_region (id := 2) tt_ok (inps := [.call (c_SpanOkI t s), .sure (c_HasI t s.Bits slot)]) rfl ?_ ?_ | refine ar_region tt_ok (inps := []) rfl ?_ ?_); rotate_left; (try dsimp only [c_HasI, c_SpanOkI]); (try refine nrm ?_); rotate_right) | refine ret3 ?_ | refine end3 ?_) | (refine ar_cond rfl trivial ?_ ?_ <;> intro hc_ <;> (try simp only [isNilI, inB, reduceCtorEq, cds] at hc_) <;> (try (first | contradiction | (exfalso; omega) | (exfalso; grind)))) | refine ar_until (And.intro ?_ (wk3 ?_)))
      all_goals (first | refine ar_id ?_ | (try (focus ((try refine nrmO ?_); (repeat' (first | exact True.intro | refine And.intro ?_ ?_)); all_goals (try (intro (hg_ : _ = true); (try simp only [isNilI, inB, reduceCtorEq, cds] at hg_); (repeat' (first | exact True.intro | refine And.intro ?_ ?_)))); all_goals (first | exact ob1 | exact hP | exact fn_SpanOkI _ _ | exact fn_HasI _ _ _ (by omega) | exact hG | exact hgl_.1 | exact hgl_.2.1 | exact hgl_.2.2.1 | exact hgl_.2.2.2.1 | exact hgl_.2.2.2.2.1 | exact hgl_.2.2.2.2.2.1 | exact hgl_.2.2.2.2.2.2.1 | exact hgl_.2.2.2.2.2.2.2.1 | exact hgl_ | exact rfl | exact one1 rfl | skip)))))
      all_goals trace_state
    · have h5' : pSpanOk s = false := by simpa using h5
      have hG : (!(!pSpanOk s)) = false := by rw [h5']; rfl
      refine fn_intro tt_ok Tryd.func42 rfl Tryd.call42 Tryd.ntmps42 Tryd.results42 rfl rfl rfl rfl ?_
      intro X ρ0 hb_ hgl_
      dsimp only [c_code]
      try refine nrm ?_
      repeat' (refine ar_id ?_; first | refine st1 ?_ | (first | ((first | refine ar_region (id := 1) tt_ok (inps := [.call (⟨82, [.agg [ro 51 2 eEntry k.Machine.Table.Entries], (SV.one (.lit (.int .i64 (s.Page))))], [], .sv (.agg [(CV.lit (.int .i64 (E.Mode))), (CV.lit (.int .i64 (E.Frame)))]), [], [], []⟩)]) rfl ?_ ?_ | refine ar_region (id := 2) tt_ok (inps := [.call (c_SpanOkI t s), .skip (SV.one (.lit (.bool (false))))]) rfl ?_ ?_ | refine ar_region tt_ok (inps := []) rfl ?_ ?_); rotate_left; (try dsimp only [c_SpanOkI]); (try refine nrm ?_); rotate_right) | refine ret3 ?_ | refine end3 ?_) | (refine ar_cond rfl trivial ?_ ?_ <;> intro hc_ <;> (try simp only [isNilI, inB, reduceCtorEq, cds] at hc_) <;> (try (first | contradiction | (exfalso; omega) | (exfalso; grind)))) | refine ar_until (And.intro ?_ (wk3 ?_)))
      all_goals (first | refine ar_id ?_ | (try (focus ((try refine nrmO ?_); (repeat' (first | exact True.intro | refine And.intro ?_ ?_)); all_goals (try (intro (hg_ : _ = true); (try simp only [isNilI, inB, reduceCtorEq, cds] at hg_); (repeat' (first | exact True.intro | refine And.intro ?_ ?_)))); all_goals (first | exact ob1 | exact hP | exact fn_SpanOkI _ _ | exact hG | exact hG.symm | exact hgl_.1 | exact hgl_.2.1 | exact hgl_.2.2.1 | exact hgl_.2.2.2.1 | exact hgl_.2.2.2.2.1 | exact hgl_.2.2.2.2.2.1 | exact hgl_.2.2.2.2.2.2.1 | exact hgl_.2.2.2.2.2.2.2.1 | exact hgl_ | exact rfl | exact one1 rfl | skip)))))
      all_goals trace_state
  all_goals
    have hb := bits_bd h1.1
    have hG : (!(!pSpanOk s)) = true := by rw [h1.1]; rfl
    obtain rfl := hc.symm.trans h
    refine fn_intro tt_ok Tryd.func42 rfl Tryd.call42 Tryd.ntmps42 Tryd.results42 rfl rfl rfl rfl ?_
    intro X ρ0 hb_ hgl_
    dsimp only [c_code]
    try refine nrm ?_
    repeat' (refine ar_id ?_; first | refine st1 ?_ | (first | ((first | refine ar_region (id := 1) tt_ok (inps := [.call (⟨82, [.agg [ro 51 2 eEntry k.Machine.Table.Entries], (SV.one (.lit (.int .i64 (s.Page))))], [], .sv (.agg [(CV.lit (.int .i64 (E.Mode))), (CV.lit (.int .i64 (E.Frame)))]), [], [], []⟩)]) rfl ?_ ?_ | refine ar_region (id := 2) tt_ok (inps := [.call (c_SpanOkI t s), .sure (c_HasI t s.Bits slot)]) rfl ?_ ?_ | refine ar_region (id := 4) tt_ok (inps := [.call (c_KOkI k), .call (c_isMapped E.Mode E.Frame)]) rfl ?_ ?_ | refine ar_region tt_ok (inps := []) rfl ?_ ?_); rotate_left; (try dsimp only [c_HasI, c_KOkI, c_SpanOkI, c_isMapped]); (try refine nrm ?_); rotate_right) | refine ret3 ?_ | refine end3 ?_) | (refine ar_cond rfl trivial ?_ ?_ <;> intro hc_ <;> (try simp only [isNilI, inB, reduceCtorEq, cds] at hc_) <;> (try (first | contradiction | (exfalso; omega) | (exfalso; first | grind | (unfold pKernelOk at *; simp only [decide_eq_true_eq, decide_eq_false_iff_not] at *; grind))))) | refine ar_until (And.intro ?_ (wk3 ?_)))
    all_goals (first | refine ar_id ?_ | (try (focus ((try refine nrmO ?_); (repeat' (first | exact True.intro | refine And.intro ?_ ?_)); all_goals (try (intro (hg_ : _ = true); (try simp only [isNilI, inB, reduceCtorEq, cds] at hg_); (repeat' (first | exact True.intro | refine And.intro ?_ ?_)))); all_goals (first | exact ob1 | exact hP | exact fn_SpanOkI _ _ | exact fn_HasI _ _ _ (by omega) | exact fn_KOkI _ (szK_from16 hs) | exact fn_isMapped _ _ | exact hG | exact hgl_.1 | exact hgl_.2.1 | exact hgl_.2.2.1 | exact hgl_.2.2.2.1 | exact hgl_.2.2.2.2.1 | exact hgl_.2.2.2.2.2.1 | exact hgl_.2.2.2.2.2.2.1 | exact hgl_.2.2.2.2.2.2.2.1 | exact hgl_ | exact rfl | exact one1 rfl | skip)))))
    all_goals trace_state
/-- a part of the cells of a slot's frame, that are known as0 the slice A n c -/
def c_slotC (t : Tb) (m : GMachine) (f : Nat) (s : GSpan) (slot : Int) (A : Option Addr) (n c : Nat) : CFD := ⟨43, [.agg [.ro 33 1 m.Frames.Cells.length (D.cat ((m.Frames.Cells.map eIntS).set f (.lit (.slice A n c) .nil))), ro 4 1 Tr.eB m.Frames.Used, ro 51 2 eEntry m.Table.Entries], .agg [(CV.lit (.int .i64 (s.Page))), (CV.lit (.int .i64 (s.Class))), (CV.lit (.int .i64 (s.Bits)))], (SV.one (.lit (.int .i64 (slot))))], [], .sv (.one (.lit (.slice (A.map (·.add (frAt s slot * 1))) (Cl.csz s.Class).toNat (c - frAt s slot)))), [], [], t.both⟩
set_option maxHeartbeats 2000000 in
theorem fn_slotC (t : Tb) (m : GMachine) (f : Nat) (s : GSpan) (slot : Int) (A : Option Addr) (n c : Nat) (hs : szM7 m) (hf : (pPageEntry m.Table s.Page).Frame = (f : Int)) (hf1 : f < m.Frames.Cells.length) (hn : 16 ≤ n) (hc : n ≤ c) (h1 : pSpanOk s = true) (h2 : Bm.has s.Bits slot = true) : Fn Tryd.prog (c_slotC t m f s slot A n c) := by
  have hen := hs.e
  obtain ⟨E, hE⟩ : ∃ E, pPageEntry m.Table s.Page = E := ⟨_, rfl⟩
  have hP := fn_PageEntryI m.Table s.Page hen
  unfold c_PageEntryI at hP
  rw [hE] at hP hf
  obtain ⟨b1, b2, ⟨b3, b4⟩, b5, b6⟩ := slot_bds h1 h2
  obtain ⟨_, _, a3, a4⟩ := fr_addr h1 h2
  obtain ⟨a, ha⟩ : ∃ a, frAt s slot = a := ⟨_, rfl⟩
  obtain ⟨z, hz⟩ : ∃ z, (Cl.csz s.Class).toNat = z := ⟨_, rfl⟩
  have hz' : Cl.csz s.Class = (z : Int) := by omega
  have hCz := fn_CszI t s.Class
  unfold c_CszI at hCz
  rw [hz'] at hCz a4 b3 b4
  rw [ha] at a3 a4
  rw [hz] at a3
  have hsl : ((m.Frames.Cells.map eIntS).set f (.lit (.slice A n c) .nil))[f]? = some (.lit (.slice A n c) .nil) := List.getElem?_set_self (by rw [List.length_map]; exact hf1)
  have hel : Elem (D.cat ((m.Frames.Cells.map eIntS).set f (.lit (.slice A n c) .nil))) 1 m.Frames.Cells.length (E.Frame).toNat (.lit (.slice A n c) .nil) := ⟨_, rfl, by simp, fun d hd => by
    rcases List.mem_or_eq_of_mem_set hd with h | rfl
    · obtain ⟨_, _, rfl⟩ := List.mem_map.1 h; rfl
    · rfl, by rw [hf, Int.toNat_natCast]; exact hsl⟩
  have e1 : (slot * (z : Int)).toNat = a := by omega
  have e2 : ((slot + 1) * (z : Int)).toNat - (slot * (z : Int)).toNat = z := by rw [Int.add_mul, Int.one_mul]; omega
  have g1 : (slot + 1) * (z : Int) = slot * (z : Int) + z := by rw [Int.add_mul, Int.one_mul]
  have hsb := slots_bd s.Class
  refine fn_intro tt_ok Tryd.func43 rfl Tryd.call43 Tryd.ntmps43 Tryd.results43 rfl rfl rfl rfl ?_
  intro X ρ0 hb_ hgl_
  dsimp only [c_slotC]
  try refine nrm ?_
  rw [ha, hz]
  repeat' (refine ar_id ?_; first | refine st1 ?_ | (first | ((first | refine ar_region (id := 1) tt_ok (inps := [.call (⟨55, [(SV.one (.lit (.int .i64 (s.Class))))], [], (TV.sv (.one (.lit (.int .i64 ((z : Int)))))), [], [], [t.gS]⟩)]) rfl ?_ ?_ | refine ar_region (id := 2) tt_ok (inps := [.call (⟨82, [.agg [ro 51 2 eEntry m.Table.Entries], (SV.one (.lit (.int .i64 (s.Page))))], [], .sv (.agg [(CV.lit (.int .i64 (E.Mode))), (CV.lit (.int .i64 (E.Frame)))]), [], [], []⟩)]) rfl ?_ ?_ | refine ar_region (id := 3) tt_ok (inps := [.elem (.lit (.slice A n c) .nil), .keep]) rfl ?_ ?_ | refine ar_region tt_ok (inps := []) rfl ?_ ?_); rotate_left; (try refine nrm ?_); rotate_right) | refine ret3 ?_ | refine end3 ?_) | (refine ar_cond rfl trivial ?_ ?_ <;> intro hc_ <;> (try simp only [isNilI, inB, reduceCtorEq, cds] at hc_) <;> (try (first | contradiction | (exfalso; omega) | (exfalso; omega)))) | refine ar_until (And.intro ?_ (wk3 ?_)))
  all_goals (first | refine ar_id ?_ | (try (focus ((try refine nrmO ?_); (repeat' (first | exact True.intro | refine And.intro ?_ ?_)); all_goals (try (intro (hg_ : _ = true); (try simp only [isNilI, inB, reduceCtorEq, cds] at hg_); (repeat' (first | exact True.intro | refine And.intro ?_ ?_)))); all_goals (first | exact ob1 | exact hCz | exact hP | exact hel | exact i64_ok (by omega) (by omega) | exact hgl_.1 | exact hgl_.2.1 | exact hgl_.2.2.1 | exact hgl_.2.2.2.1 | exact hgl_.2.2.2.2.1 | exact hgl_.2.2.2.2.2.1 | exact hgl_.2.2.2.2.2.2.1 | exact hgl_.2.2.2.2.2.2.2.1 | exact hgl_ | exact rfl | exact one1 rfl | skip)))))
  rw [e2, e1]
  rfl
def c_FrI (t : Tb) (k : GKernel) (s : GSpan) (slot : Int) (k2 : GKernel) (s2 : GSpan) (e : Int) : CFD := ⟨17, [.agg [ro 33 1 eIntS k.Machine.Frames.Cells, ro 4 1 Tr.eB k.Machine.Frames.Used, ro 51 2 eEntry k.Machine.Table.Entries, (CV.lit (.int .i64 (k.Calls))), ro 3 1 Tr.eI k.Refuse], .agg [(CV.lit (.int .i64 (s.Page))), (CV.lit (.int .i64 (s.Class))), (CV.lit (.int .i64 (s.Bits)))], (SV.one (.lit (.int .i64 (slot))))], [], .tup [.agg [.hd 0, .hd 1, .hd 2, (CV.lit (.int .i64 (k2.Calls))), .hd 3], .agg [(CV.lit (.int .i64 (s2.Page))), (CV.lit (.int .i64 (s2.Class))), (CV.lit (.int .i64 (s2.Bits)))], (SV.one (.lit (.int .i64 (e))))], [(0, some (.row 33 1 (k2.Machine.Frames.Cells.map eIntS))), (1, some (.row 4 1 (k2.Machine.Frames.Used.map Tr.eB))), (2, some (.row 51 2 (k2.Machine.Table.Entries.map eEntry))), (3, some (.row 3 1 (k2.Refuse.map Tr.eI)))], [0, 1, 2, 3], t.both⟩
set_option maxHeartbeats 2000000 in
theorem fn_FrI (t : Tb) (k : GKernel) (s : GSpan) (slot : Int) (k2 : GKernel) (s2 : GSpan) (e : Int) (hs : szK8 k) (h : pFreeSlot k s slot = (k2, s2, e)) : Fn Tryd.prog (c_FrI t k s slot k2 s2 e) := by
  unfold pFreeSlot at h
  by_cases hc : frCode k s slot = 0
  · rw [if_pos hc] at h
    obtain ⟨e1, e2⟩ := Prod.mk.inj h
    obtain ⟨e3, e4⟩ := Prod.mk.inj e2
    subst e1 e3 e4
    obtain ⟨h1, h2, h3, h4⟩ : (pSpanOk s = true ∧ Bm.has s.Bits slot = true) ∧ okK k ∧ modeOf k s.Page ≠ 0 ∧ modeOf k s.Page ≠ 1 := by
      rcases fr_cases k s slot with ⟨h, _⟩ | ⟨h, _⟩ | ⟨h, _⟩ | ⟨_, h⟩
      · rw [h] at hc; cases hc
      · rw [h] at hc; cases hc
      · rw [h] at hc; cases hc
      · exact h
    obtain ⟨f, hf, hf1, _, hf2, hf3⟩ := okM_entry h2.1 (show (pPageEntry k.Machine.Table s.Page).Mode ≠ 0 from h3)
    have hfr : frFrame k s = f := by unfold frFrame; rw [hf]; rfl
    obtain ⟨_, _, a3, a4⟩ := fr_addr h1.1 h1.2
    have hcs := (slot_bds h1.1 h1.2).2.2.2
    have hb := bits_bd h1.1
    unfold frK wiped
    rw [hfr]
    have hcode := fn_code t k s slot 0 hs hc
    have hgive := fn_sGive t s slot hb.1 hb.2
    obtain ⟨R, hR⟩ : ∃ R, k.Machine.Frames.Cells.getD f [] = R := ⟨_, rfl⟩
    rw [hR] at hf2
    have hrow : (k.Machine.Frames.Cells.map eIntS)[f]? = some (eIntS R) := by rw [← hR]; exact map_at hf1
    have hw := wipe_eq R (frAt s slot) (Cl.csz s.Class).toNat (by omega)
    have hcl := hs.m.c
    refine fn_intro tt_ok Tryd.func17 rfl Tryd.call17 Tryd.ntmps17 Tryd.results17 rfl rfl rfl rfl ?_
    intro X ρ0 hb_ hgl_
    dsimp only [c_FrI]
    try refine nrm ?_
    rw [hR]
    repeat' (refine ar_id ?_; first | refine st1 ?_ | (first | ((first | refine ar_region (id := 1) tt_ok (inps := [.call (c_CopyKI k)]) rfl ?_ ?_ | refine ar_region (id := 2) tt_ok (inps := [.call (c_code t k s slot 0)]) rfl ?_ ?_ | refine ar_region tt_ok (inps := []) rfl ?_ ?_); rotate_left; (try dsimp only [c_CopyKI, c_code]); (try refine nrm ?_); rotate_right) | refine ret3 ?_ | refine end3 ?_) | (refine ar_cond rfl trivial ?_ ?_ <;> intro hc_ <;> (try simp only [isNilI, inB, reduceCtorEq, cds] at hc_) <;> (try (first | contradiction | (exfalso; omega) | (exfalso; grind)))) | refine ar_until (And.intro ?_ (wk3 ?_)))
    all_goals (first | refine ar_id ?_ | (try (focus ((try refine nrmO ?_); (repeat' (first | exact True.intro | refine And.intro ?_ ?_)); all_goals (try (intro (hg_ : _ = true); (try simp only [isNilI, inB, reduceCtorEq, cds] at hg_); (repeat' (first | exact True.intro | refine And.intro ?_ ?_)))); all_goals (first | exact ob1 | exact fn_CopyKI _ (szK_from16 hs) | exact hcode | exact hgl_.1 | exact hgl_.2.1 | exact hgl_.2.2.1 | exact hgl_.2.2.2.1 | exact hgl_.2.2.2.2.1 | exact hgl_.2.2.2.2.2.1 | exact hgl_.2.2.2.2.2.2.1 | exact hgl_.2.2.2.2.2.2.2.1 | exact hgl_ | exact rfl | exact one1 rfl | skip)))))
    refine ar_open2 13000 f 0 90001 90002 (d := eIntS R) (R.map eI) rfl ?_ rfl ?_ rfl rfl rfl ?_
    · first | exact map_at (by omega) | assumption | exact set_at (by (try simp only [List.length_map, List.length_set]); omega) | (rw [List.getElem?_set_ne (by omega)]; exact map_at (by omega))
    · exact ⟨rfl, rfl, by intro e he; simp only [List.mem_map] at he; obtain ⟨_, _, rfl⟩ := he; rfl⟩
    intro A_90001 n_90001 c_90001 hn_90001 hc_90001
    try refine nrm ?_
    rw [List.length_map] at hn_90001
    have hsc := fn_slotC t k.Machine f s slot A_90001 n_90001 c_90001 hs.m hf hf1 (by omega) hc_90001 h1.1 h1.2
    refine ar_region (id := 5) tt_ok (inps := [.call (c_slotC t k.Machine f s slot A_90001 n_90001 c_90001), .nest .nil [(frAt s slot, 90002)]]) rfl ?_ ?_
    rotate_left
    (try dsimp only [c_slotC]); (try refine nrm ?_)
    refine ar_close 13000 f 0 90001 90002 rfl rfl rfl (set_at ?_) rfl rfl rfl ?_
    · (simp only [List.length_map, List.length_set]; omega)
    try refine nrm ?_
    repeat' (refine ar_id ?_; first | refine st1 ?_ | (first | ((first | refine ar_draw (id := 6) (inps := [.call (c_sGive t s slot)]) tt_ok (by kernel_rfl) rfl rfl (by kernel_rfl) rfl rfl rfl rfl ?_ ?_ | refine ar_region tt_ok (inps := []) rfl ?_ ?_); rotate_left; (try dsimp only [c_sGive]); (try refine nrm ?_); rotate_right) | refine ret3 ?_ | refine end3 ?_) | (refine ar_cond rfl trivial ?_ ?_ <;> intro hc_ <;> (try simp only [isNilI, inB, reduceCtorEq, cds] at hc_) <;> (try (first | contradiction | (exfalso; omega)))) | refine ar_until (And.intro ?_ (wk3 ?_)))
    all_goals (first | refine ar_id ?_ | (try (focus ((try refine nrmO ?_); (repeat' (first | exact True.intro | refine And.intro ?_ ?_)); all_goals (try (intro (hg_ : _ = true); (try simp only [isNilI, inB, reduceCtorEq, cds] at hg_); (repeat' (first | exact True.intro | refine And.intro ?_ ?_)))); all_goals (first | exact ob1 | exact hgive | exact hgl_.1 | exact hgl_.2.1 | exact hgl_.2.2.1 | exact hgl_.2.2.2.1 | exact hgl_.2.2.2.2.1 | exact hgl_.2.2.2.2.2.1 | exact hgl_.2.2.2.2.2.2.1 | exact hgl_.2.2.2.2.2.2.2.1 | exact hgl_ | exact rfl | exact one1 rfl | skip)))))
    all_goals (try (focus ((try refine nrmO ?_); (repeat' (first | exact True.intro | refine And.intro ?_ ?_)); all_goals (try (intro (hg_ : _ = true); (try simp only [isNilI, inB, reduceCtorEq, cds] at hg_); (repeat' (first | exact True.intro | refine And.intro ?_ ?_)))); all_goals (first | exact ob1 | exact hsc | exact hgl_.1 | exact hgl_.2.1 | exact hgl_.2.2.1 | exact hgl_.2.2.2.1 | exact hgl_.2.2.2.2.1 | exact hgl_.2.2.2.2.2.1 | exact hgl_.2.2.2.2.2.2.1 | exact hgl_.2.2.2.2.2.2.2.1 | exact hgl_ | exact rfl | exact one1 rfl | skip))))
    · have hwm : (R.map eI).take (frAt s slot) ++ (List.replicate (Cl.csz s.Class).toNat (D.lit ti3.z .nil) ++ (R.map eI).drop (frAt s slot + (Cl.csz s.Class).toNat)) = (wipe R (frAt s slot) (Cl.csz s.Class).toNat).map eI := by
        rw [← hw, List.map_append, List.map_append, List.map_take, List.map_drop, List.map_replicate]; rfl
      rw [hwm, List.set_set]
      show (List.map eIntS k.Machine.Frames.Cells).set f (eIntS (wipe R (frAt s slot) (Cl.csz s.Class).toNat)) = _
      exact List.map_set.symm
    · rw [List.length_set, List.length_map]
    · intro d hd
      obtain ⟨_, _, rfl⟩ := List.mem_map.1 hd
      exact ⟨rfl, trivial⟩
  · rw [if_neg hc] at h
    obtain ⟨e1, e2⟩ := Prod.mk.inj h
    obtain ⟨e3, e4⟩ := Prod.mk.inj e2
    subst e1 e3
    have hcode := fn_code t k s slot e hs e4
    rw [e4] at hc
    refine fn_intro tt_ok Tryd.func17 rfl Tryd.call17 Tryd.ntmps17 Tryd.results17 rfl rfl rfl rfl ?_
    intro X ρ0 hb_ hgl_
    dsimp only [c_FrI]
    try refine nrm ?_
    repeat' (refine ar_id ?_; first | refine st1 ?_ | (refine ar_drawS (id := 4) tt_ok (by kernel_rfl) [] ?_; refine ed_hide ?_; intro K_ hK_; repeat' (first | ((first | refine ed_call3 ?_ | refine ed_sure3 ?_ | refine ed_cons3 ?_); refine ed_hide ?_; intro K_ hK_; (try dsimp only [c_CopyKI, c_code]); (try refine nrmE ?_)) | (refine ed_nil ?_; (repeat subst hK_); dsimp only; refine Exists.intro _ (And.intro rfl (And.intro (by kernel_rfl) (And.intro ?_ ?_))); rotate_left; (try dsimp only [c_CopyKI, c_code]); (try refine nrm ?_); rotate_right))) | (first | ((first | refine ar_region (id := 1) tt_ok (inps := [.call (c_CopyKI k)]) rfl ?_ ?_ | refine ar_region (id := 2) tt_ok (inps := [.call (c_code t k s slot e)]) rfl ?_ ?_ | refine ar_region tt_ok (inps := []) rfl ?_ ?_); rotate_left; (try dsimp only [c_CopyKI, c_code]); (try refine nrm ?_); rotate_right) | refine ret3 ?_ | refine end3 ?_) | (refine ar_cond rfl trivial ?_ ?_ <;> intro hc_ <;> (try simp only [isNilI, inB, reduceCtorEq, cds] at hc_) <;> (try (first | contradiction | (exfalso; omega) | (exfalso; grind)))) | refine ar_until (And.intro ?_ (wk3 ?_)))
    all_goals (first | refine ar_id ?_ | (try (focus ((try refine nrmO ?_); (repeat' (first | exact True.intro | refine And.intro ?_ ?_)); all_goals (try (intro (hg_ : _ = true); (try simp only [isNilI, inB, reduceCtorEq, cds] at hg_); (repeat' (first | exact True.intro | refine And.intro ?_ ?_)))); all_goals (first | exact ob1 | exact fn_CopyKI _ (szK_from16 hs) | exact hcode | exact hgl_.1 | exact hgl_.2.1 | exact hgl_.2.2.1 | exact hgl_.2.2.2.1 | exact hgl_.2.2.2.2.1 | exact hgl_.2.2.2.2.2.1 | exact hgl_.2.2.2.2.2.2.1 | exact hgl_.2.2.2.2.2.2.2.1 | exact hgl_ | exact rfl | exact one1 rfl | skip)))))
    all_goals trace_state
def c_isIn (x : GLate) (ss : List GSpan) : CFD := ⟨32, [.agg [(CV.lit (.int .i64 (x.Index))), (CV.lit (.int .i64 (x.Slot)))], .one (ro 49 3 eSpan ss)], [], (TV.sv (.one (.lit (.bool (decide (isIn x ss.length)))))), [], [], []⟩
theorem fn_isIn (x : GLate) (ss : List GSpan) : Fn Tryd.prog (c_isIn x ss) := by
  refine fn_intro tt_ok Tryd.func32 rfl Tryd.call32 Tryd.ntmps32 Tryd.results32 rfl rfl rfl rfl ?_
  intro X ρ0 hb_ hgl_
  dsimp only [c_isIn]
  try refine nrm ?_
  repeat' (refine ar_id ?_; first | refine st1 ?_ | (first | ((first | refine ar_region tt_ok (inps := []) rfl ?_ ?_); rotate_left; (try refine nrm ?_); rotate_right) | refine ret3 ?_ | refine end3 ?_) | (refine ar_cond rfl trivial ?_ ?_ <;> intro hc_ <;> (try simp only [isNilI, inB, reduceCtorEq, cds] at hc_) <;> (try (first | contradiction | (exfalso; omega)))) | refine ar_until (And.intro ?_ (wk3 ?_)))
  all_goals (first | refine ar_id ?_ | (try (focus ((try refine nrmO ?_); (repeat' (first | exact True.intro | refine And.intro ?_ ?_)); all_goals (try (intro (hg_ : _ = true); (try simp only [isNilI, inB, reduceCtorEq, cds] at hg_); (repeat' (first | exact True.intro | refine And.intro ?_ ?_)))); all_goals (first | exact ob1 | skip)))))
  refine congrArg Value.bool ?_
  rw [Bool.eq_iff_iff, decide_eq_true_iff]
  unfold isIn
  simp only [Bool.cond_false_right, Bool.and_eq_true, decide_eq_true_eq]
  all_goals omega
def c_CloneSp (l : List GSpan) : CFD := ⟨29, [.one (ro 49 3 eSpan l)], [], .sv (.one (.hd 0)), [(0, some (.row 49 3 (l.map eSpan)))], [0], []⟩
theorem fn_CloneSp (l : List GSpan) (hl : l.length ≤ 1048576) : Fn Tryd.prog (c_CloneSp l) := by
  refine fn_intro tt_ok Tryd.func29 rfl Tryd.call29 Tryd.ntmps29 Tryd.results29 rfl rfl rfl rfl ?_
  intro X ρ0 hb_ hgl_
  dsimp only [c_CloneSp]
  try refine nrm ?_
  repeat' (refine ar_id ?_; first | refine st1 ?_ | (first | ((first | refine ar_region tt_ok (inps := []) rfl ?_ ?_); rotate_left; (try refine nrm ?_); rotate_right) | refine ret3 ?_ | refine end3 ?_) | (refine ar_cond rfl trivial ?_ ?_ <;> intro hc_ <;> (try simp only [isNilI, inB, reduceCtorEq, cds] at hc_) <;> (try (first | contradiction | (exfalso; omega)))) | refine ar_until (And.intro ?_ (wk3 ?_)))
  all_goals (first | refine ar_id ?_ | (try (focus ((try refine nrmO ?_); (repeat' (first | exact True.intro | refine And.intro ?_ ?_)); all_goals (try (intro (hg_ : _ = true); (try simp only [isNilI, inB, reduceCtorEq, cds] at hg_); (repeat' (first | exact True.intro | refine And.intro ?_ ?_)))); all_goals (first | exact ob1 | skip)))))
  refine ar_split (s := 0) rfl ?_ ?_
  · intro hn hc
    repeat' (refine ar_id ?_; first | refine st1 ?_ | (first | ((first | refine ar_region tt_ok (inps := []) rfl ?_ ?_); rotate_left; (try refine nrm ?_); rotate_right) | refine ret3 ?_ | refine end3 ?_) | (refine ar_cond rfl trivial ?_ ?_ <;> intro hc_ <;> (try simp only [isNilI, inB, reduceCtorEq, cds] at hc_) <;> (try (first | contradiction | (exfalso; omega)))) | refine ar_until (And.intro ?_ (wk3 ?_)))
    all_goals (first | refine ar_id ?_ | (try (focus ((try refine nrmO ?_); (repeat' (first | exact True.intro | refine And.intro ?_ ?_)); all_goals (try (intro (hg_ : _ = true); (try simp only [isNilI, inB, reduceCtorEq, cds] at hg_); (repeat' (first | exact True.intro | refine And.intro ?_ ?_)))); all_goals (first | exact ob1 | skip)))))
    refine ar_nil (s := 2) (T := 49) (q := 3) (r := 90000) rfl rfl ?_
    repeat' (refine ar_id ?_; first | refine st1 ?_ | (first | ((first | refine ar_region tt_ok (inps := []) rfl ?_ ?_); rotate_left; (try refine nrm ?_); rotate_right) | refine ret3 ?_ | refine end3 ?_) | (refine ar_cond rfl trivial ?_ ?_ <;> intro hc_ <;> (try simp only [isNilI, inB, reduceCtorEq, cds] at hc_) <;> (try (first | contradiction | (exfalso; omega)))) | refine ar_until (And.intro ?_ (wk3 ?_)))
    all_goals (first | refine ar_id ?_ | (try (focus ((try refine nrmO ?_); (repeat' (first | exact True.intro | refine And.intro ?_ ?_)); all_goals (try (intro (hg_ : _ = true); (try simp only [isNilI, inB, reduceCtorEq, cds] at hg_); (repeat' (first | exact True.intro | refine And.intro ?_ ?_)))); all_goals (first | exact ob1 | skip)))))
    rw [List.length_eq_zero_iff.1 hn]; rfl
  · intro ad cap hr
    repeat' (refine ar_id ?_; first | refine st1 ?_ | (first | ((first | refine ar_region tt_ok (inps := []) rfl ?_ ?_); rotate_left; (try refine nrm ?_); rotate_right) | refine ret3 ?_ | refine end3 ?_) | (refine ar_cond rfl trivial ?_ ?_ <;> intro hc_ <;> (try simp only [isNilI, inB, reduceCtorEq, cds] at hc_) <;> (try (first | contradiction | (exfalso; omega)))) | refine ar_until (And.intro ?_ (wk3 ?_)))
    all_goals (first | refine ar_id ?_ | (try (focus ((try refine nrmO ?_); (repeat' (first | exact True.intro | refine And.intro ?_ ?_)); all_goals (try (intro (hg_ : _ = true); (try simp only [isNilI, inB, reduceCtorEq, cds] at hg_); (repeat' (first | exact True.intro | refine And.intro ?_ ?_)))); all_goals (first | exact ob1 | skip)))))
    refine ar_read (s := 0) hr rfl ?_
    repeat' (refine ar_id ?_; first | refine st1 ?_ | (first | ((first | refine ar_region (id := 3) tt_ok (inps := [.elems (l.map eSpan)]) rfl ?_ ?_ | refine ar_region tt_ok (inps := []) rfl ?_ ?_); rotate_left; (try refine nrm ?_); rotate_right) | refine ret3 ?_ | refine end3 ?_) | (refine ar_cond rfl trivial ?_ ?_ <;> intro hc_ <;> (try simp only [isNilI, inB, reduceCtorEq, cds] at hc_) <;> (try (first | contradiction | (exfalso; omega)))) | refine ar_until (And.intro ?_ (wk3 ?_)))
    all_goals (first | refine ar_id ?_ | (try (focus ((try refine nrmO ?_); (repeat' (first | exact True.intro | refine And.intro ?_ ?_)); all_goals (try (intro (hg_ : _ = true); (try simp only [isNilI, inB, reduceCtorEq, cds] at hg_); (repeat' (first | exact True.intro | refine And.intro ?_ ?_)))); all_goals (first | exact ob1 | exact flat_map' l (fun x => ⟨rfl, rfl, rfl, rfl, trivial⟩) | exact (by simp only [lns]; omega) | exact (by simp) | skip)))))
def c_still (t : Tb) (k : GKernel) (ss : List GSpan) (l r : List GLate) : CFD := ⟨31, [.agg [ro 33 1 eIntS k.Machine.Frames.Cells, ro 4 1 Tr.eB k.Machine.Frames.Used, ro 51 2 eEntry k.Machine.Table.Entries, (CV.lit (.int .i64 (k.Calls))), ro 3 1 Tr.eI k.Refuse], .one (ro 49 3 eSpan ss), .one (ro 43 2 eLate l)], [], .sv (.one (.hd 0)), [(0, some (.row 43 2 (r.map eLate)))], [0], t.both⟩
set_option maxHeartbeats 2000000 in
theorem fn_still16 (t : Tb) (k : GKernel) (ss : List GSpan) (l r : List GLate) (hs : szK8 k) (hl : l.length ≤ 1048576) (h : pStill k ss l = r) : Fn Tryd.prog (c_still t k ss l r) := by
  have hpl : ∀ i, (pStill k ss (l.take i)).length ≤ i := fun i => by
    have := List.length_filter_le (fun x => decide (waits k ss x)) (l.take i)
    rw [List.length_take] at this
    exact Nat.le_trans this (by omega)
  refine fn_intro tt_ok Tryd.func31 rfl Tryd.call31 Tryd.ntmps31 Tryd.results31 rfl rfl rfl rfl ?_
  intro X ρ0 hb_ hgl_
  dsimp only [c_still]
  try refine nrm ?_
  repeat' (refine ar_id ?_; first | refine st1 ?_ | (first | ((first | refine ar_region tt_ok (inps := []) rfl ?_ ?_); rotate_left; (try refine nrm ?_); rotate_right) | refine ret3 ?_ | refine end3 ?_) | (refine ar_cond rfl trivial ?_ ?_ <;> intro hc_ <;> (try simp only [isNilI, inB, reduceCtorEq, cds] at hc_) <;> (try (first | contradiction | (exfalso; omega)))) | refine ar_until (And.intro ?_ (wk3 ?_)))
  all_goals (first | refine ar_id ?_ | (try (focus ((try refine nrmO ?_); (repeat' (first | exact True.intro | refine And.intro ?_ ?_)); all_goals (try (intro (hg_ : _ = true); (try simp only [isNilI, inB, reduceCtorEq, cds] at hg_); (repeat' (first | exact True.intro | refine And.intro ?_ ?_)))); all_goals (first | exact ob1 | skip)))))
  refine ar_nil (s := 7) (T := 43) (q := 2) (r := 90000) rfl rfl ?_
  repeat' (refine ar_id ?_; first | refine st1 ?_ | (first | ((first | refine ar_region tt_ok (inps := []) rfl ?_ ?_); rotate_left; (try refine nrm ?_); rotate_right) | refine ret3 ?_ | refine end3 ?_) | (refine ar_cond rfl trivial ?_ ?_ <;> intro hc_ <;> (try simp only [isNilI, inB, reduceCtorEq, cds] at hc_) <;> (try (first | contradiction | (exfalso; omega)))) | refine ar_until (And.intro ?_ (wk3 ?_)))
  all_goals (first | refine ar_id ?_ | (try (focus ((try refine nrmO ?_); (repeat' (first | exact True.intro | refine And.intro ?_ ?_)); all_goals (try (intro (hg_ : _ = true); (try simp only [isNilI, inB, reduceCtorEq, cds] at hg_); (repeat' (first | exact True.intro | refine And.intro ?_ ?_)))); all_goals (first | exact ob1 | skip)))))
  refine ar_keep 7887 (by dsimp only [keepS] <;> exact rfl) ?_
  refine ar_forM (l.length) (fun i => True) (fun i => [(12, (TV.sv (.one (.lit (.int .i64 (i)))))), (7, (TV.sv (.one (.hd 90000))))]) (fun i => [(90000, some (.row 43 2 ((pStill k ss (l.take i)).map eLate)))]) ?_ ?_ ?_
  rotate_left
  · first | trivial | simp
  (dsimp only [rnCap, capSVs, Int.toNat_natCast, ro, Nat.reduceAdd, Nat.reduceMul, Nat.zero_add, List.map, putT, app, wrapG, gOb, argT, keys, slotOf, dropped, gAnd, wB, rnT, rnS, rnC, rnCs, rnSs, rnM, rnB, rnN, rn, lk, St.over, ded, delL, keepT, menT, menSs, menS, menCs, menC, hasN, resT, SV.cells]; refine wk3 ?_; (focus ((try refine nrmO ?_); (repeat' (first | exact True.intro | refine And.intro ?_ ?_)); all_goals (try (intro (hg_ : _ = true); (try simp only [isNilI, inB, reduceCtorEq, cds] at hg_); (repeat' (first | exact True.intro | refine And.intro ?_ ?_)))); all_goals (first | exact ob1 | exact rfl | skip))))
  rotate_right
  intro i hi_ hiI_
  dsimp only [rnCap, capSVs, Int.toNat_natCast, ro, Nat.reduceAdd, Nat.reduceMul, Nat.zero_add, List.map, putT, app, wrapG, gOb, argT, keys, slotOf, dropped, gAnd, wB, rnT, rnS, rnC, rnCs, rnSs, rnM, rnB, rnN, rn, lk, St.over, ded, delL, keepT, menT, menSs, menS, menCs, menC, hasN, resT, SV.cells]
  have hpi := hpl i
  obtain ⟨x, hx⟩ : ∃ x, l.getD i noLt = x := ⟨_, rfl⟩
  by_cases hi : i < l.length
  · have hst := still_take k ss hi
    rw [hx] at hst
    have hel : Elem (D.cat (l.map eLate)) 2 l.length ((i : Int)).toNat (eLate x) := elem_map (fun _ => rfl) (show l[i]? = some x by rw [← hx]; exact getD_at hi)
    by_cases hin : isIn x ss.length
    · have hi1 := hin.1
      have hi2 := hin.2
      have hG : (decide (isIn x ss.length)) = true := decide_eq_true hin
      obtain ⟨e, he⟩ : ∃ e, frCode k (ss.getD x.Index.toNat noSp) x.Slot = e := ⟨_, rfl⟩
      have hcode := fn_code t k (ss.getD x.Index.toNat noSp) x.Slot e hs he
      have hes : Elem (D.cat (ss.map eSpan)) 3 ss.length (x.Index).toNat (eSpan (ss.getD x.Index.toNat noSp)) := elem_map (fun _ => rfl) (getD_at (by omega))
      by_cases h2 : e = 2
      · subst h2
        rw [if_pos ⟨hin, he⟩] at hst
        repeat' (refine ar_id ?_; first | refine st1 ?_ | (refine ar_drawS (id := 5) tt_ok (by kernel_rfl) [.call (c_isIn x ss), .elem (eSpan (ss.getD x.Index.toNat noSp)), .sure (c_code t k (ss.getD x.Index.toNat noSp) x.Slot 2)] ?_; refine ed_hide ?_; intro K_ hK_; repeat' (first | ((first | refine ed_call3 ?_ | refine ed_sure3 ?_ | refine ed_cons3 ?_); refine ed_hide ?_; intro K_ hK_; (try dsimp only [c_code, c_isIn]); (try refine nrmE ?_)) | (refine ed_nil ?_; (repeat subst hK_); dsimp only; refine Exists.intro _ (And.intro rfl (And.intro (by kernel_rfl) (And.intro ?_ ?_))); rotate_left; (try dsimp only [c_code, c_isIn]); (try refine nrm ?_); rotate_right))) | (first | ((first | refine ar_region (id := 4) tt_ok (inps := [.elem (eLate x)]) rfl ?_ ?_ | refine ar_region tt_ok (inps := []) rfl ?_ ?_); rotate_left; (try dsimp only [c_code, c_isIn]); (try refine nrm ?_); rotate_right) | refine ret3 ?_ | refine end3 ?_) | (refine ar_cond rfl trivial ?_ ?_ <;> intro hc_ <;> (try simp only [isNilI, inB, reduceCtorEq, cds] at hc_) <;> (try (first | contradiction | (exfalso; omega) | (exfalso; grind)))) | refine ar_until (And.intro ?_ (wk3 ?_)))
        all_goals (first | refine ar_id ?_ | (try (focus ((try refine nrmO ?_); (repeat' (first | exact True.intro | refine And.intro ?_ ?_)); all_goals (try (intro (hg_ : _ = true); (try simp only [isNilI, inB, reduceCtorEq, cds] at hg_); (repeat' (first | exact True.intro | refine And.intro ?_ ?_)))); all_goals (first | exact ob1 | exact hel | exact fn_isIn _ _ | exact hes | exact hcode | exact hG | exact hgl_.1 | exact hgl_.2.1 | exact hgl_.2.2.1 | exact hgl_.2.2.2.1 | exact hgl_.2.2.2.2.1 | exact hgl_.2.2.2.2.2.1 | exact hgl_.2.2.2.2.2.2.1 | exact hgl_.2.2.2.2.2.2.2.1 | exact hgl_ | exact rfl | exact one1 rfl | skip)))))
        all_goals first | (rw [hst, List.map_append, app_eq]; rfl) | trace_state
      · rw [if_neg (fun w => h2 (he.symm.trans w.2)), List.append_nil] at hst
        repeat' (refine ar_id ?_; first | refine st1 ?_ | (refine ar_drawS (id := 5) tt_ok (by kernel_rfl) [.call (c_isIn x ss), .elem (eSpan (ss.getD x.Index.toNat noSp)), .sure (c_code t k (ss.getD x.Index.toNat noSp) x.Slot e)] ?_; refine ed_hide ?_; intro K_ hK_; repeat' (first | ((first | refine ed_call3 ?_ | refine ed_sure3 ?_ | refine ed_cons3 ?_); refine ed_hide ?_; intro K_ hK_; (try dsimp only [c_code, c_isIn]); (try refine nrmE ?_)) | (refine ed_nil ?_; (repeat subst hK_); dsimp only; refine Exists.intro _ (And.intro rfl (And.intro (by kernel_rfl) (And.intro ?_ ?_))); rotate_left; (try dsimp only [c_code, c_isIn]); (try refine nrm ?_); rotate_right))) | (first | ((first | refine ar_region (id := 4) tt_ok (inps := [.elem (eLate x)]) rfl ?_ ?_ | refine ar_region tt_ok (inps := []) rfl ?_ ?_); rotate_left; (try dsimp only [c_code, c_isIn]); (try refine nrm ?_); rotate_right) | refine ret3 ?_ | refine end3 ?_) | (refine ar_cond rfl trivial ?_ ?_ <;> intro hc_ <;> (try simp only [isNilI, inB, reduceCtorEq, cds] at hc_) <;> (try (first | contradiction | (exfalso; omega) | (exfalso; grind)))) | refine ar_until (And.intro ?_ (wk3 ?_)))
        all_goals (first | refine ar_id ?_ | (try (focus ((try refine nrmO ?_); (repeat' (first | exact True.intro | refine And.intro ?_ ?_)); all_goals (try (intro (hg_ : _ = true); (try simp only [isNilI, inB, reduceCtorEq, cds] at hg_); (repeat' (first | exact True.intro | refine And.intro ?_ ?_)))); all_goals (first | exact ob1 | exact hel | exact fn_isIn _ _ | exact hes | exact hcode | exact hG | exact hgl_.1 | exact hgl_.2.1 | exact hgl_.2.2.1 | exact hgl_.2.2.2.1 | exact hgl_.2.2.2.2.1 | exact hgl_.2.2.2.2.2.1 | exact hgl_.2.2.2.2.2.2.1 | exact hgl_.2.2.2.2.2.2.2.1 | exact hgl_ | exact rfl | exact one1 rfl | skip)))))
        all_goals first | (rw [hst]; done) | trace_state
    · have hG : (decide (isIn x ss.length)) = false := decide_eq_false hin
      rw [if_neg (fun w => hin w.1), List.append_nil] at hst
      repeat' (refine ar_id ?_; first | refine st1 ?_ | (refine ar_drawS (id := 5) tt_ok (by kernel_rfl) [.call (c_isIn x ss), .elem (eSpan (ss.getD x.Index.toNat noSp)), .skip (SV.one (.lit (.int .i64 (0))))] ?_; refine ed_hide ?_; intro K_ hK_; repeat' (first | ((first | refine ed_call3 ?_ | refine ed_sure3 ?_ | refine ed_cons3 ?_); refine ed_hide ?_; intro K_ hK_; (try dsimp only [c_isIn]); (try refine nrmE ?_)) | (refine ed_nil ?_; (repeat subst hK_); dsimp only; refine Exists.intro _ (And.intro rfl (And.intro (by kernel_rfl) (And.intro ?_ ?_))); rotate_left; (try dsimp only [c_isIn]); (try refine nrm ?_); rotate_right))) | (first | ((first | refine ar_region (id := 4) tt_ok (inps := [.elem (eLate x)]) rfl ?_ ?_ | refine ar_region tt_ok (inps := []) rfl ?_ ?_); rotate_left; (try dsimp only [c_isIn]); (try refine nrm ?_); rotate_right) | refine ret3 ?_ | refine end3 ?_) | (refine ar_cond rfl trivial ?_ ?_ <;> intro hc_ <;> (try simp only [isNilI, inB, reduceCtorEq, cds] at hc_) <;> (try (first | contradiction | (exfalso; omega) | (exfalso; grind)))) | refine ar_until (And.intro ?_ (wk3 ?_)))
      all_goals (first | refine ar_id ?_ | (try (focus ((try refine nrmO ?_); (repeat' (first | exact True.intro | refine And.intro ?_ ?_)); all_goals (try (intro (hg_ : _ = true); (try simp only [isNilI, inB, reduceCtorEq, cds] at hg_); (repeat' (first | exact True.intro | refine And.intro ?_ ?_)))); all_goals (first | exact ob1 | exact hel | exact fn_isIn _ _ | exact hG | exact hG.symm | exact absurd hg_ hin | exact hgl_.1 | exact hgl_.2.1 | exact hgl_.2.2.1 | exact hgl_.2.2.2.1 | exact hgl_.2.2.2.2.1 | exact hgl_.2.2.2.2.2.1 | exact hgl_.2.2.2.2.2.2.1 | exact hgl_.2.2.2.2.2.2.2.1 | exact hgl_ | exact rfl | exact one1 rfl | skip)))))
      all_goals first | (rw [hst]; done) | trace_state
  · have hie : i = l.length := by omega
    subst hie
    repeat' (refine ar_id ?_; first | refine st1 ?_ | (first | ((first | refine ar_region tt_ok (inps := []) rfl ?_ ?_); rotate_left; (try refine nrm ?_); rotate_right) | refine ret3 ?_ | refine end3 ?_) | (refine ar_cond rfl trivial ?_ ?_ <;> intro hc_ <;> (try simp only [isNilI, inB, reduceCtorEq, cds] at hc_) <;> (try (first | contradiction | (exfalso; omega) | (exfalso; omega)))) | refine ar_until (And.intro ?_ (wk3 ?_)))
    all_goals (first | refine ar_id ?_ | (try (focus ((try refine nrmO ?_); (repeat' (first | exact True.intro | refine And.intro ?_ ?_)); all_goals (try (intro (hg_ : _ = true); (try simp only [isNilI, inB, reduceCtorEq, cds] at hg_); (repeat' (first | exact True.intro | refine And.intro ?_ ?_)))); all_goals (first | exact ob1 | skip)))))
    all_goals (rw [List.take_length, h])
end Eng
end Go.Proofs.YtgeakpeodhhffaaDoor
namespace Go.Proofs.YtgeakpeodhhffaaDoor
open Go Go.Conc
set_option linter.unusedVariables false
set_option linter.unusedSimpArgs false
namespace Co
section
variable {P : Program} {H Pt : Nat → Prop} {a : Act} {w : World}
theorem stepG_put_off {main : Bool} {b : Frame} {k : List Item} {cs : List Frame} {ops : Array Oper} {i : Nat} {rest : List Nat} {o : Oper} {d : Deferred} (ho : ops[i]? = some o) (hw : Region.wanted o (yielded ops a.tmps) = true) (hk : b.kind ≠ .early)
    (hr : (execOp a.eval o).run P w = .ok (.defer d) w) (he : (execOp a.eval o).events P w #[] = #[]) :
    stepG P main (G (b.at a (.inRegion ops (i :: rest) :: k)) cs) w = .go (G (b.at (Act.put ⟨a.tmps, d :: a.defers⟩ o.dst undef) (.inRegion ops rest :: k)) cs) w #[] := by
  have hfin : (b.at ⟨a.tmps, d :: a.defers⟩ (.inRegion ops (i :: rest) :: k)).finish undef = b.at (Act.put ⟨a.tmps, d :: a.defers⟩ o.dst undef) (.inRegion ops rest :: k) := by rw [Frame.finish_at, ho]; rfl
  have hk' : (b.kind == CallKind.early) = false := by simpa using hk
  rw [stepG_oper ho hw, ← hfin]
  simp [stepG.apply, hr, he, G, Frame.at, hk', GStep.after, seen_none]
theorem opK_defer {o : Oper} {d : Deferred} {K : Act → World → Prop} (h : ∀ w₁, Aside H w w₁ → (execOp a.eval o).run P w₁ = .ok (.defer d) w₁ ∧ (execOp a.eval o).events P w₁ #[] = #[] ∧ K (Act.put ⟨a.tmps, d :: a.defers⟩ o.dst undef) w₁) : OpK P H Pt o a w K := by
  intro M b ops i rest k cs hk ho hw hc
  refine M.step rfl fun w₁ h₁ => ?_
  obtain ⟨hr, he, hK⟩ := h w₁ (M.sub h₁)
  exact ⟨_, w₁, #[], stepG_put_off ho hw hk hr he, fun _ => Done.idle _ _, hc _ _ hK⟩
/-- a function that was put off, at its return -/
structure LeavesD (P : Program) (Rl : World → World → Prop) (fr : Frame) (w : World) (R : Ending → World → Prop) : Prop where
  mode : fr.mode = .returning
  defers : fr.defers = []
  kind : fr.kind = .deferred
  fn : ∃ fn, P.funcs[fr.fn]? = some fn ∧ ∀ w₁, Rl w w₁ → ∃ v, (results fn fr.tmps).run P w₁ = .ok v w₁ ∧ R (.returned v) w₁
/-- a call that was put off -/
def CallsD (P : Program) (H Pt : Nat → Prop) (f : FuncId) (args : Array Value) (w : World) (R : Ending → World → Prop) : Prop :=
  ∀ (M : Sys P H Pt) (cs : List Frame), (∀ fr w', fr.fn = f → LeavesD P M.Rl fr w' R → M.Run (G fr cs) w') → M.Run (G (Frame.enter P f args .deferred) cs) w
theorem CallsD.mono {f : FuncId} {args : Array Value} {R R' : Ending → World → Prop} (h : CallsD P H Pt f args w R) (hr : ∀ v w', R (.returned v) w' → R' (.returned v) w') : CallsD P H Pt f args w R' :=
  fun M cs hc => h M cs fun fr w' h1 h2 => hc fr w' h1 ⟨h2.mode, h2.defers, h2.kind, let ⟨fn, h3, h4⟩ := h2.fn; ⟨fn, h3, fun w₁ hw => let ⟨v, h5, h6⟩ := h4 w₁ hw; ⟨v, h5, hr _ _ h6⟩⟩⟩
theorem callsD_of {f : FuncId} {fn : Func} {c : Code} {args : Array Value} {R : Ending → World → Prop} (hf : P.funcs[f]? = some fn) (hb : fn.body = some c)
    (h : wpK P H Pt c (bodyK P H fn R) { tmps := args ++ Array.replicate (fn.ntmps - args.size) undef, defers := [] } w) : CallsD P H Pt f args w R := by
  intro M cs hc
  rw [enter_atD args hf hb]
  refine h M (baseD f) [] cs (by simp [baseD]) fun e a' w' q => ?_
  cases e with
  | normal => exact M.go rfl (fun _ => stepG_end) (hc _ _ rfl ⟨rfl, q.1, rfl, fn, hf, fun w₁ hw => q.2 w₁ (M.sub hw)⟩)
  | ret => exact fun todo => hc _ _ rfl ⟨rfl, q.1, rfl, fn, hf, fun w₁ hw => q.2 w₁ (M.sub hw)⟩
  | exit id => exact q.elim
  | goto l => exact q.elim
  | panic ch => exact q.elim
  | outgrown => exact q.elim
/-- at the end of the body: one call was put off; what it and the results come to -/
def DefK (P : Program) (H Pt : Nat → Prop) (fn : Func) (R : Ending → World → Prop) (a : Act) (w : World) : Prop :=
  ∃ (g : FuncId) (vs : Array Value), a.defers = [{ target := .fn (.func g) vs, args := #[] }] ∧ (∀ w₁, (callFunc g vs).run P w₁ = .ok (.enter g vs) w₁ ∧ (¬ Lone → (callFunc g vs).events P w₁ #[] = #[])) ∧
    ∀ w₁, Aside H w w₁ → CallsD P H Pt g vs w₁ (fun e w' => ∀ w₂, Aside H w' w₂ → ∃ v, (results fn a.tmps).run P w₂ = .ok v w₂ ∧ R (.returned v) w₂)
def bodyD (P : Program) (H Pt : Nat → Prop) (fn : Func) (R : Ending → World → Prop) : Exit → Act → World → Prop
  | .normal, a, w | .ret, a, w => DefK P H Pt fn R a w
  | _, _, _ => False
theorem callsK_ofD {f : FuncId} {fn : Func} {c : Code} {args : Array Value} {R : Ending → World → Prop} (hf : P.funcs[f]? = some fn) (hb : fn.body = some c)
    (h : wpK P H Pt c (bodyD P H Pt fn R) { tmps := args ++ Array.replicate (fn.ntmps - args.size) undef, defers := [] } w) : CallsK P H Pt f args w R := by
  intro M cs hc
  rw [enter_at args hf hb]
  have key : ∀ (a' : Act) (w' : World) (todo : List Item), DefK P H Pt fn R a' w' → M.Run (G { (base f).at a' todo with mode := .returning } cs) w' := by
    rintro a' w' todo ⟨g, vs, hd, hcall, hD⟩
    refine M.step rfl fun w₁ h₁ => ?_
    refine ⟨G (Frame.enter P g vs .deferred) ({ (base f).at ⟨a'.tmps, []⟩ todo with mode := .returning } :: cs), w₁, seen P f ((callFunc g vs).events P w₁ #[]), ?_, fun hl => ⟨fun _ _ => rfl, fun e he => ?_⟩, ?_⟩
    · simp [G, stepG, unwind, callDeferred, Frame.at, hd, invoke, (hcall w₁).1, Sem.runT_eq, GStep.after, base]
    · have := mem_seen he
      rw [(hcall w₁).2 hl] at this
      simp at this
    · refine hD w₁ (M.sub h₁) M _ fun fr w2 hfn hl => ?_
      refine M.step (show (G fr _).status = .running from rfl) fun w₃ h₃ => ?_
      obtain ⟨fn', hf', hr⟩ := hl.fn
      obtain ⟨v, h4, h5⟩ := hr w₃ h₃
      refine ⟨G { (base f).at ⟨a'.tmps, []⟩ todo with mode := .returning } cs, w₃, seen P fr.fn ((results fn' fr.tmps).events P w₃ #[]), ?_, fun _ => ⟨fun _ _ => rfl, fun e he => ?_⟩, ?_⟩
      · simp [G, stepG, unwind, doReturn, hl.mode, hl.defers, hl.kind, hf', h4, Sem.runT_eq, GStep.after, Frame.at]
      · have := (tame_run (Bk := fun _ => False) _ (tresults fn' fr.tmps) w₃ #[] (fun _ h => h.elim) v w₃ h4).1 e (mem_seen he)
        rcases this with h | h
        · simp at h
        · exact evK_P h (fun _ h => h.elim)
      · exact hc _ _ rfl ⟨rfl, rfl, rfl, fn, hf, fun w₄ h₄ => h5 w₄ (M.sub h₄)⟩
  refine h M (base f) [] cs (by simp [base]) fun e a' w' q => ?_
  cases e with
  | normal => exact M.go rfl (fun _ => stepG_end) (key a' w' [] q)
  | ret => exact fun todo => key a' w' todo q
  | exit id => exact q.elim
  | goto l => exact q.elim
  | panic ch => exact q.elim
  | outgrown => exact q.elim
end
end Co
namespace Eng
open Tr
/-- the contract of a function that is put off -/
structure FnD (P : Program) (c : CFD) : Prop where
  fn : ∀ (X : Cx) (ρ : Env) (xs : List Value), X.ds = [] → GlAll (GlX X) c.gl → MRel X ρ X.w0 c.pre → (∀ q y, ρ q = some y → q ∈ keys c.pre) → SsRel X ρ c.args xs → Co.CallsD P X.H X.Pt c.f xs.toArray X.w0 (CPost X ρ c)
  call : ∀ args w, (callFunc c.f args).run P w = .ok (.enter c.f args) w
  ev : ¬ Co.Lone → ∀ args w, (callFunc c.f args).events P w #[] = #[]
section
variable {P : Program} {tt : TT}
theorem fnd_intro (htt : TTok P tt) {c : CFD} {fn : Func} {code : Code} {n : Nat} {base : List Nat} {rs : List ResultVar} {t0 : TL} {m0 : ML} (hf : P.funcs[c.f]? = some fn) (hb : fn.body = some code) (hcall : ∀ args w, (callFunc c.f args).run P w = .ok (.enter c.f args) w) (hn0 : fn.ntmps = n) (hrs : fn.results = ⟨rs⟩) (hbase : keys c.pre = base) (hm0 : c.pre = m0) (ht0 : argT 0 c.args = t0) (hn : Nat.ble (lenL c.args) n = true)
    (h : ∀ (X : Cx) (ρ0 : Env) (hb : ∀ q y, ρ0 q = some y → q ∈ base), GlAll (GlX X) c.gl → AR P ⟨X, ρ0, base, n, hb⟩ (Fin tt rs c) [.code code] ⟨t0, m0, base⟩) : FnD P c := by
  subst hn0 hbase hm0 ht0
  obtain rfl : rs = fn.results.toList := by rw [hrs]
  refine ⟨fun X ρ xs hds hgl hM hk hx => Co.callsD_of hf hb (fn_wp htt hn h hds hgl hM hk hx), hcall, fun _ args w => by
    unfold callFunc
    simp only [Sem.events_bind, run_program, Result.evThen_ok, events_program, hf, hb, Option.isNone_some, Bool.false_eq_true, if_false]
    split <;> rfl⟩
/-- what is still to do, until Q -/
def kontQ (P : Program) (H Pt : Nat → Prop) (Q : Exit → Act → World → Prop) : List It → Exit → Act → World → Prop
  | [], e, a, w => Q e a w
  | .code c :: k, e, a, w => match e with
    | .normal => Co.wpK P H Pt c (kontQ P H Pt Q k) a w
    | e => kontQ P H Pt Q k e a w
  | .blk id :: k, e, a, w => match e with
    | .exit id' => if id' = id then kontQ P H Pt Q k .normal a w else kontQ P H Pt Q k (.exit id') a w
    | e => kontQ P H Pt Q k e a w
  | .scp :: k, e, a, w => match e with
    | .goto _ => False
    | e => kontQ P H Pt Q k e a w
  | .until _ :: _, _, _, _ => False
def AQ (P : Program) (F : Fr) (Q : Exit → Act → World → Prop) (k : List It) (σ : St) : Prop := ∀ a w, StRel F σ a w → kontQ P F.X.H F.X.Pt Q k .normal a w
variable {F : Fr} {Q : Exit → Act → World → Prop} {k : List It} {σ : St}
theorem aq_seq {x y : Code} (h : AQ P F Q (.code x :: .code y :: k) σ) : AQ P F Q (.code (.seq x y) :: k) σ := by
  intro a w hS
  refine Co.wpK_seq (Co.wpK_mono (h a w hS) ?_)
  intro e a' w' hq
  cases e <;> exact hq
/-- a piece by an ordinary walk: it ends in 'refine ar_until ?_' -/
theorem aq_cut {x : Code} (h : AR P F (fun _ => False) [.code x, .until (AQ P F Q k)] σ) : AQ P F Q (.code x :: k) σ := by
  intro a w hS
  refine Co.wpK_mono (h a w hS) ?_
  intro e a' w' hq
  cases e with
  | normal => obtain ⟨σ', h1, h2⟩ := hq; exact h1 a' w' h2
  | ret => obtain ⟨_, h1, _⟩ := hq; exact h1.elim
  | exit id => exact hq.elim
  | goto l => exact hq.elim
  | panic ch => exact hq.elim
  | outgrown => exact hq.elim
theorem aq_run {id : Nat} {ops : List Oper} {t : TL} {m : ML} {u : List Nat} (inps : List Inp) (h : AS P F (kontQ P F.X.H F.X.Pt Q k) ops ops inps t m u) : AQ P F Q (.code (.region id ⟨ops⟩ false) :: k) ⟨t, m, u⟩ :=
  fun a w hS => Co.wpK_region (h a w hS)
def noUntil : List It → Bool
  | [] => true
  | .until _ :: _ => false
  | _ :: k => noUntil k
theorem kont_Q {R : St → Prop} (hQ : ∀ a w, (∃ σ, R σ ∧ StRel F σ a w) → Q .ret a w ∧ Q .normal a w) : ∀ {k : List It}, noUntil k = true → ∀ {e : Exit} {a : Act} {w : World}, kont P F R k e a w → kontQ P F.X.H F.X.Pt Q k e a w
  | [], _, e, a, w, h => by
    cases e with
    | ret => exact (hQ a w h).1
    | normal => exact (hQ a w h).2
    | exit id => exact h.elim
    | goto l => exact h.elim
    | panic ch => exact h.elim
    | outgrown => exact h.elim
  | .code c :: k, hu, e, a, w, h => by
    cases e with
    | normal => exact Co.wpK_mono h fun e a w q => kont_Q hQ (k := k) hu q
    | exit id => exact kont_Q hQ (k := k) hu (e := .exit id) h
    | ret => exact kont_Q hQ (k := k) hu (e := .ret) h
    | goto l => exact kont_Q hQ (k := k) hu (e := .goto l) h
    | panic ch => exact kont_Q hQ (k := k) hu (e := .panic ch) h
    | outgrown => exact kont_Q hQ (k := k) hu (e := .outgrown) h
  | .blk id :: k, hu, e, a, w, h => by
    cases e with
    | exit id' =>
      change (if id' = id then kont P F R k .normal a w else kont P F R k (.exit id') a w) at h
      show if id' = id then kontQ P F.X.H F.X.Pt Q k .normal a w else kontQ P F.X.H F.X.Pt Q k (.exit id') a w
      by_cases e : id' = id
      · rw [if_pos e] at h ⊢; exact kont_Q hQ (k := k) hu h
      · rw [if_neg e] at h ⊢; exact kont_Q hQ (k := k) hu h
    | normal => exact kont_Q hQ (k := k) hu (e := .normal) h
    | ret => exact kont_Q hQ (k := k) hu (e := .ret) h
    | goto l => exact kont_Q hQ (k := k) hu (e := .goto l) h
    | panic ch => exact kont_Q hQ (k := k) hu (e := .panic ch) h
    | outgrown => exact kont_Q hQ (k := k) hu (e := .outgrown) h
  | .scp :: k, hu, e, a, w, h => by
    cases e with
    | goto l => exact h.elim
    | exit id => exact kont_Q hQ (k := k) hu (e := .exit id) h
    | normal => exact kont_Q hQ (k := k) hu (e := .normal) h
    | ret => exact kont_Q hQ (k := k) hu (e := .ret) h
    | panic ch => exact kont_Q hQ (k := k) hu (e := .panic ch) h
    | outgrown => exact kont_Q hQ (k := k) hu (e := .outgrown) h
  | .until G :: k, hu, _, _, _, _ => by cases hu
theorem aq_ar {R : St → Prop} (hu : noUntil k = true) (hQ : ∀ a w, (∃ σ, R σ ∧ StRel F σ a w) → Q .ret a w ∧ Q .normal a w) (h : AR P F R k σ) : AQ P F Q k σ := fun a w hS => kont_Q hQ hu (h a w hS)
/-- the same run, a call put off -/
def offX (X : Cx) (ds : List Deferred) : Cx := { X with ds := ds }
/-- the context from there on; the captured variables' values -/
structure Off (X X' : Cx) (ρ' : Env) (f : Nat) (caps : List (Option (Nat × Nat))) (vs : List Value) : Prop where
  eq : X' = offX X [{ target := .fn (.func f) vs.toArray, args := #[] }]
  caps : CapsRel ρ' caps vs
theorem off_reads (X : Cx) (ds : List Deferred) : Reads2 X (offX X ds) := ⟨fun _ _ h => h⟩
theorem off_back (X : Cx) (ds : List Deferred) : Reads2 (offX X ds) X := ⟨fun _ _ h => h⟩
theorem caps_off {bs : List Nat} {ρ : Env} : ∀ {l : List (Option (Nat × Nat))} {vs : List Value}, CapsRel ρ l vs → (∀ r j, some (r, j) ∈ l → r ∈ bs) → CapsRel (fun q => if q ∈ bs then ρ q else none) l vs
  | [], [], _, _ => trivial
  | none :: _, _ :: _, h, hb => ⟨h.1, caps_off h.2 (fun r j hm => hb r j (by simp [hm]))⟩
  | some (r, j) :: _, _ :: _, h, hb => by
    obtain ⟨⟨g, h1, h2⟩, h3⟩ := h
    exact ⟨⟨g, by show (if r ∈ bs then ρ r else none) = _; rw [if_pos (hb r j (by simp))]; exact h1, h2⟩, caps_off h3 (fun r j hm => hb r j (by simp [hm]))⟩
  | [], _ :: _, h, _ => h.elim
  | none :: _, [], h, _ => h.elim
  | some _ :: _, [], h, _ => h.elim
/-- THE CALL IS PUT OFF -/
theorem as_defer {all : List Oper} {o : Oper} {x f : Nat} {caps : List (Option (Nat × Nat))} {t : TL} {m : ML} {u bs : List Nat} {ty : Array TypeId} (ho : o.op = .defer { callee := .value (.tmp x), args := #[], argTypes := ty }) (hg : o.guard = none) (hd : o.dst = none) (hx : lk t x = some (.sv (.one (.fn f caps)))) (hds : F.X.ds = []) (hbs : ∀ q ∈ F.base, q ∈ bs) (hcb : ∀ r j, some (r, j) ∈ caps → r ∈ bs)
    (h : ∀ (X' : Cx) (ρ' : Env) (hb' : ∀ q y, ρ' q = some y → q ∈ bs) (vs : List Value), Off F.X X' ρ' f caps vs → Ext F.ρ0 ρ' → (∀ x, GlX F.X x → GlX X' x) → AQ P ⟨X', ρ', bs, F.n, hb'⟩ Q k ⟨t, m, u⟩) :
    AS P F (kontQ P F.X.H F.X.Pt Q k) all [o] [] t m u := by
  rintro a w ⟨ρ, hE, hA, hM, hU, hW⟩
  unfold Co.wpListK
  rw [if_pos (by simp [Region.wanted, hg])]
  obtain ⟨y, h1, vs, h2, h3⟩ := hA.at_ x _ hx
  have hev : a.eval (.tmp x) = .func (.func f) #[] vs := by
    show a.tmps.getD x undef = _
    simp [Array.getD_eq_getD_getElem?, h1, h2]
  refine Co.opK_defer (d := { target := .fn (.func f) vs, args := #[] }) fun w₁ h₁ => ⟨?_, ?_, ?_⟩
  · simp [execOp, ho, resolve, hev, Deferred.ofValue]
  · simp [execOp, ho, resolve, hev, Deferred.ofValue]
  · rw [hd]
    have hc : CapsRel (fun q => if q ∈ bs then ρ q else none) caps vs.toList := caps_off h3 hcb
    have hE' : Ext F.ρ0 (fun q => if q ∈ bs then ρ q else none) := fun q y hq => by
      show (if q ∈ bs then ρ q else none) = some y
      rw [if_pos (hbs q (F.hb q y hq))]; exact hE q y hq
    have hvs : vs.toList.toArray = vs := by rw [← Array.toList_inj]
    have := h (offX F.X [{ target := .fn (.func f) vs.toList.toArray, args := #[] }]) (fun q => if q ∈ bs then ρ q else none) (fun q y h => by
      by_cases e : q ∈ bs
      · exact e
      · simp [e] at h) vs.toList ⟨rfl, hc⟩ hE' (fun x hx => ⟨hx.at_, hx.fz, hx.nh⟩)
    rw [hvs] at this
    obtain ⟨B, hB⟩ := hM.aside h₁
    refine this _ _ ⟨ρ, fun q y hq => ?_, ⟨hA.size, ?_, fun s v hs => ?_⟩, ⟨B, fun r b hr => (hB.blk r b hr).mv (off_reads _ _), hB.nd, hB.nf, hB.dj⟩, hU, ?_⟩
    · have hq' : (if q ∈ bs then ρ q else none) = some y := hq
      by_cases e : q ∈ bs
      · rwa [if_pos e] at hq'
      · rw [if_neg e] at hq'; cases hq'
    · show _ :: a.defers = _
      rw [hA.defers, hds]; rfl
    · obtain ⟨x, k1, k2⟩ := hA.at_ s v hs
      exact ⟨x, k1, k2.mv (off_reads _ _)⟩
    · have := hW.aside h₁
      exact ⟨this.os, this.tape, this.output, this.size, this.frz⟩
def okD (P : Program) (X : Cx) : Ok := ⟨fun _ => True, GlX X, Mt P⟩
/-- the function's end: the call that was put off, then the results -/
def FinD (P : Program) (F : Fr) (tt : TT) (rs : List ResultVar) (c : CFD) (f : Nat) (caps : List (Option (Nat × Nat))) (σ : St) : Prop :=
  ∃ (cd : CFD) (s : Nat) (π : List (Nat × Nat)) (v : Option TV) (wr : ML) (al us : List Nat) (ob : List Prop), FnD P cd ∧ cd.f = f ∧ evCallG (okD P F.X) [] (capSVs caps) σ.m s none cd π = some ⟨v, wr, al, us, ob⟩ ∧ All ob ∧ disj al σ.u = true ∧ Fin tt rs c ⟨σ.t, app wr σ.m, app al σ.u⟩
end
section
variable {P : Program} {X : Cx} {ρ : Env} {w : World} {m : ML}
theorem callD {T : (Ending → World → Prop) → Prop} (hT : ∀ R R' : Ending → World → Prop, (∀ v w', R (.returned v) w' → R' (.returned v) w') → T R → T R') {ok : Ok} (hgl : ∀ x, ok.gl x → GlX X x) {s : Nat} {c : CFD} {vs : List SV} {o1 : List Prop} {π : List (Nat × Nat)} {xs : List Value} (hx : All o1 → SsRel X ρ vs xs) {e : Eff} (he : evCallG ok o1 vs m s none c π = some e) (hob : All e.ob) (hs : ∀ r ∈ e.al, ρ r = none) (hM : MRel X ρ w m) (hW : WRel X w)
    (hf : ∀ (Xc : Cx) (ρc : Env), Xc.w0 = w → Xc.H = X.H → Xc.Pt = X.Pt → Xc.ds = [] → GlAll (GlX Xc) c.gl → MRel Xc ρc Xc.w0 c.pre → (∀ q y, ρc q = some y → q ∈ keys c.pre) → SsRel Xc ρc c.args xs → T (CPost Xc ρc c)) :
    T (fun en w' => ∃ v ρ', en = .returned v ∧ (∀ tv, e.v = some tv → TRel X ρ' tv v) ∧ Ext ρ ρ' ∧ (∀ r y, ρ' r = some y → ρ r = some y ∨ r ∈ e.al) ∧ MRel X ρ' w' (app e.wr m) ∧ WRel X w') := by
  unfold evCallG at he
  split at he
  · rename_i o2 ros o3 h2 h3
    split at he
    · rename_i hn1 hin hd
      split at he
      · rename_i hro
        have hro' : ros = [] ∨ (noRoT c.res = true ∧ noRoM c.post = true) := by
          cases ros with
          | nil => exact .inl rfl
          | cons r l =>
            simp only [isNil] at hro
            split at hro
            · rename_i h1; exact .inr ⟨h1, hro⟩
            · cases hro
        obtain rfl := Option.some.inj he
        rw [All_app, All_app, All_app] at hob
        refine hT _ _ ?_ (call_coreT hT h2 hob.2.1 h3 hob.2.2.1 hn1 hin hd hro' hf (glAll_mono hgl hob.2.2.2.2.1) hs (hx hob.1) hM hW)
        rintro v w' ⟨v', ρn, e0, q1, q2, q3, q4, q5⟩
        exact ⟨v', ρn, e0, fun tv htv => by cases htv; exact q1, q2, q3, q4, q5⟩
      · cases he
    · cases he
  · cases he
end
section
variable {P : Program} {tt : TT}
/-- from the function's end to what its caller meets -/
theorem finD_ends (htt : TTok P tt) {c : CFD} {fn : Func} {X X' : Cx} {ρc ρ' : Env} {bs : List Nat} {n : Nat} {hb' : ∀ q y, ρ' q = some y → q ∈ bs} {rs : List ResultVar} {f : Nat} {caps : List (Option (Nat × Nat))} {vs : List Value} (hrs : fn.results = ⟨rs⟩) (hk : ∀ q y, ρc q = some y → q ∈ keys c.pre) (hds : X.ds = [])
    (ho : Off X X' ρ' f caps vs) (hE0 : Ext ρc ρ') {a : Act} {w : World}
    (h : ∃ σ, FinD P ⟨X', ρ', bs, n, hb'⟩ tt rs c f caps σ ∧ StRel ⟨X', ρ', bs, n, hb'⟩ σ a w) :
    Co.DefK P X.H X.Pt fn (CPost X ρc c) a w := by
  obtain ⟨rfl, hc⟩ := ho
  obtain rfl : rs = fn.results.toList := by rw [hrs]
  obtain ⟨σ, ⟨cd, s, π, v, wr, al, us, ob, hfd, rfl, hev, hob, hal, hfin⟩, ρ1, hE, hA, hM, hU, hW⟩ := h
  obtain ⟨π', rv, ob', k1, k2, k3, k4, k5, k6, k7, k8⟩ := hfin
  have hcaps : CapsRel ρ1 caps vs := hc.ext hE
  have hXs : WRel X w := ⟨hW.os, hW.tape, hW.output, hW.size, hW.frz⟩
  refine ⟨cd.f, vs.toArray, hA.defers, fun w₁ => ⟨hfd.call _ _, fun hl => hfd.ev hl _ _⟩, fun w₁ h₁ => ?_⟩
  have hfr : ∀ r ∈ al, ρ1 r = none := by
    intro r hr
    cases hq : ρ1 r with
    | none => rfl
    | some y => exact absurd (hU r y hq) (disj_sound hal r hr)
  have h := callD (T := fun R => Co.CallsD P X.H X.Pt cd.f vs.toArray w₁ R) (fun _ _ h hc => hc.mono h) (X := offX X [{ target := .fn (.func cd.f) vs.toArray, args := #[] }]) (ok := okD P (offX X [{ target := .fn (.func cd.f) vs.toArray, args := #[] }])) (fun x hx => hx) (xs := vs) (fun _ => capSVs_rel hcaps) hev hob hfr (hM.aside h₁) (hW.aside h₁) (fun Xc ρc' e1 e2 e3 e4 q1 q2 q3 q4 => by
    have := hfd.fn Xc ρc' vs e4 q1 q2 q3 q4
    rw [e1, e2, e3] at this
    exact this)
  refine h.mono ?_
  rintro v0 w' ⟨x, ρ2, _, _, q2, q3, q4, q5⟩ w₂ h₂
  have hA2 : ARel (offX X [{ target := .fn (.func cd.f) vs.toArray, args := #[] }]) ρ2 n σ.t a := hA.ext q2
  have hM2 := q4.aside h₂
  have hW2 := q5.aside h₂
  obtain ⟨x, g1, g2⟩ := results_sound htt hA2 hM2 k1 k2
  rw [k3] at g1
  have hM3 := unM hM2 k4 k6 k7
  obtain ⟨B, hB⟩ := hM3
  refine ⟨x, g2, x, under π' (app (keys c.pre) c.nm) ρ2, rfl, (unT g1 k5).mv (off_back X _), ?_, fun q y hq => ?_, ⟨B, fun r b hr => (hB.blk r b hr).mv (off_back X _), hB.nd, hB.nf, hB.dj⟩, ⟨hW2.os, hW2.tape, hW2.output, hW2.size, hW2.frz⟩⟩
  · intro q y hq
    have h1 := hk q y hq
    show (if q ∈ app (keys c.pre) c.nm then ρ2 (rn π' 0 q) else none) = some y
    rw [if_pos (by rw [app_eq, List.mem_append]; exact .inl h1), fixed_at k8 q h1]
    exact q2 q y (hE q y (hE0 q y hq))
  · have hq' : (if q ∈ app (keys c.pre) c.nm then ρ2 (rn π' 0 q) else none) = some y := hq
    by_cases e : q ∈ app (keys c.pre) c.nm
    · rw [app_eq, List.mem_append] at e; exact e
    · rw [if_neg e] at hq'; cases hq'
/-- A FUNCTION THAT PUTS A CALL OFF: its contract, out of its body -/
theorem fn_defers (htt : TTok P tt) {c : CFD} {fn : Func} {code : Code} {n : Nat} {base : List Nat} {t0 : TL} {m0 : ML} (hf : P.funcs[c.f]? = some fn) (hb : fn.body = some code) (hcall : ∀ args w, (callFunc c.f args).run P w = .ok (.enter c.f args) w) (hn0 : fn.ntmps = n) (hbase : keys c.pre = base) (hm0 : c.pre = m0) (ht0 : argT 0 c.args = t0) (hn : Nat.ble (lenL c.args) n = true)
    (h : ∀ (X : Cx) (ρ0 : Env) (hb : ∀ q y, ρ0 q = some y → q ∈ base), GlAll (GlX X) c.gl → X.ds = [] → AQ P ⟨X, ρ0, base, n, hb⟩ (Co.bodyD P X.H X.Pt fn (CPost X ρ0 c)) [.code code] ⟨t0, m0, base⟩) : Fn P c := by
  subst hn0 hbase hm0 ht0
  rw [lenL_eq] at hn
  refine ⟨fun X ρ xs hds hgl hM hk hx => Co.callsK_ofD hf hb ?_, hcall, fun _ args w => by
    unfold callFunc
    simp only [Sem.events_bind, run_program, Result.evThen_ok, events_program, hf, hb, Option.isNone_some, Bool.false_eq_true, if_false]
    split <;> rfl⟩
  have hlen := hx.len
  have hn' := Nat.le_of_ble_eq_true hn
  let F : Fr := ⟨X, ρ, keys c.pre, fn.ntmps, hk⟩
  have hS : StRel F ⟨argT 0 c.args, c.pre, keys c.pre⟩ { tmps := xs.toArray ++ Array.replicate (fn.ntmps - xs.toArray.size) undef, defers := [] } X.w0 := by
    refine ⟨ρ, Ext.refl ρ, ⟨?_, hds.symm, fun s v hs => ?_⟩, hM, hk, ⟨rfl, rfl, rfl, Nat.le_refl _, fun _ _ _ => rfl⟩⟩
    · show (xs.toArray ++ Array.replicate (fn.ntmps - xs.toArray.size) undef).size = fn.ntmps
      simp; omega
    · obtain ⟨x, _, h2, h3⟩ := argT_sound hx hs
      refine ⟨x, ?_, h3⟩
      rw [Nat.sub_zero] at h2
      have hsl : s < xs.length := by
        rcases Nat.lt_or_ge s xs.length with h | h
        · exact h
        · rw [List.getElem?_eq_none h] at h2; cases h2
      show (xs.toArray ++ Array.replicate (fn.ntmps - xs.toArray.size) undef)[s]? = some x
      rw [Array.getElem?_append_left (by simpa using hsl)]
      simpa using h2
  exact Co.wpK_mono (h X ρ hk hgl hds _ _ hS) fun e a w q => q
end
section
variable {P : Program} {F : Fr} {tt : TT} {rs : List ResultVar} {c cd : CFD} {k : List It} {σ : St} {f : Nat} {caps : List (Option (Nat × Nat))}
/-- the return of a function that has put a call off: that call's contract -/
theorem retd3 (s : Nat) {π : List (Nat × Nat)} {v : Option TV} {wr : ML} {al us : List Nat} {ob : List Prop} (hfd : FnD P cd) (ho : All ob) (hfin : Fin tt rs c ⟨σ.t, app wr σ.m, app al σ.u⟩) (hf : cd.f = f := by exact rfl) (hπ : mpM cd.pre σ.m (mpSs cd.args (capSVs caps) []) = π := by dsimp only [capSVs, mpCap, Nat.reduceAdd, Nat.reduceMul, Nat.zero_add, List.map, mpM, mpTL, mpO, mpB, lkO, mpT, mpSs, mpS, mpCs, mpC, mpN, lk, idN, keys, resT, ro] <;> exact rfl) (hev : evCallG (okD P F.X) [] (capSVs caps) σ.m s none cd π = some ⟨v, wr, al, us, ob⟩ := by exact rfl) (hal : disj al σ.u = true := by exact rfl) : AR P F (FinD P F tt rs c f caps) (.code .ret :: k) σ :=
  ar_ret ⟨cd, s, π, v, wr, al, us, ob, hfd, hf, hev, ho, hal, hfin⟩
theorem fin3 {vs : List SV} {π : List (Nat × Nat)} {ob o : List Prop} (ho : All (app ob o)) (h1 : resVs tt σ.t σ.m rs = some (vs, ob) := by exact rfl) (hπ : mpM c.post σ.m (mpT c.res (resT vs) (idN (keys c.pre))) = π := by dsimp only [mpCap, Nat.reduceAdd, Nat.reduceMul, Nat.zero_add, List.map, mpM, mpTL, mpO, mpB, lkO, mpT, mpSs, mpS, mpCs, mpC, mpN, lk, idN, keys, resT, ro] <;> exact rfl) (h2 : finOb c σ vs π = some o := by dsimp only [xCap, okCap, rnCap, Nat.reduceAdd, Nat.reduceMul, Nat.zero_add, List.map, wkOb, finOb, xTL, xM, xT, xSs, xS, xCs, xC, xB, okTL, okML, okT, okSs, okS, okCs, okC, okB, nodupN, rnN, allIn, fixed, rn, lk, hasN, app, SV.cells, ro, keys, resT] <;> exact rfl) : Fin tt rs c σ := fin_auto2 h1 hπ h2 ho
end
end Eng
end Go.Proofs.YtgeakpeodhhffaaDoor
namespace Go.Proofs.YtgeakpeodhhffaaDoor
open Go.RowKit
set_option linter.unusedVariables false
set_option linter.unusedSimpArgs false
set_option maxRecDepth 100000
namespace Eng
open Tr
/-- the function that is put off: the variables kernel, freed, list, waiting -/
def c_off (t : Tb) (k : GKernel) (ss : List GSpan) (l r : List GLate) : CFD := ⟨30, [.one (.box 500 0), .one (.box 510 0), .one (.box 520 0), .one (.box 530 0)],
  [(500, some (.box 35 [.hd 501, .hd 502, .hd 503, (CV.lit (.int .i64 (k.Calls))), .hd 504])), (501, some (.row 33 1 (k.Machine.Frames.Cells.map eIntS))), (502, some (.row 4 1 (k.Machine.Frames.Used.map Tr.eB))), (503, some (.row 51 2 (k.Machine.Table.Entries.map eEntry))), (504, some (.row 3 1 (k.Refuse.map Tr.eI))), (510, some (.box 36 [.hd 511])), (511, some (.row 49 3 (ss.map eSpan))), (520, some (.box 39 [ro 43 2 eLate l])), (530, some (.box 39 [.lit (.slice none 0 0)]))], .tup [],
  [(500, some (.box 35 [.hd 501, .hd 502, .hd 503, (CV.lit (.int .i64 (k.Calls))), .hd 504])), (501, some (.row 33 1 (k.Machine.Frames.Cells.map eIntS))), (502, some (.row 4 1 (k.Machine.Frames.Used.map Tr.eB))), (503, some (.row 51 2 (k.Machine.Table.Entries.map eEntry))), (504, some (.row 3 1 (k.Refuse.map Tr.eI))), (510, some (.box 36 [.hd 511])), (511, some (.row 49 3 (ss.map eSpan))), (520, some (.box 39 [ro 43 2 eLate l])), (530, some (.box 39 [.hd 540])), (540, some (.row 43 2 (r.map eLate)))], [540], t.both⟩
theorem fn_off (t : Tb) (k : GKernel) (ss : List GSpan) (l r : List GLate) (hs : szK8 k) (hl : l.length ≤ 1048576) (h : pStill k ss l = r) : FnD Tryd.prog (c_off t k ss l r) := by
  refine fnd_intro tt_ok Tryd.func30 rfl Tryd.call30 Tryd.ntmps30 Tryd.results30 rfl rfl rfl rfl ?_
  intro X ρ0 hb_ hgl_
  dsimp only [c_off]
  try refine nrm ?_
  repeat' (refine ar_id ?_; first | refine st1 ?_ | (first | ((first | refine ar_region (id := 0) tt_ok (inps := [.call (c_still t k ss l r)]) rfl ?_ ?_ | refine ar_region tt_ok (inps := []) rfl ?_ ?_); rotate_left; (try dsimp only [c_still]); (try refine nrm ?_); rotate_right) | refine ret3 ?_ | refine end3 ?_) | (refine ar_cond rfl trivial ?_ ?_ <;> intro hc_ <;> (try simp only [isNilI, inB, reduceCtorEq, cds] at hc_) <;> (try (first | contradiction | (exfalso; omega)))) | refine ar_until (And.intro ?_ (wk3 ?_)))
  all_goals (first | refine ar_id ?_ | (try (focus ((try refine nrmO ?_); (repeat' (first | exact True.intro | refine And.intro ?_ ?_)); all_goals (try (intro (hg_ : _ = true); (try simp only [isNilI, inB, reduceCtorEq, cds] at hg_); (repeat' (first | exact True.intro | refine And.intro ?_ ?_)))); all_goals (first | exact ob1 | exact fn_still16 _ _ _ _ _ hs hl h | exact hgl_.1 | exact hgl_.2.1 | exact hgl_.2.2.1 | exact hgl_.2.2.2.1 | exact hgl_.2.2.2.2.1 | exact hgl_.2.2.2.2.2.1 | exact hgl_.2.2.2.2.2.2.1 | exact hgl_.2.2.2.2.2.2.2.1 | exact hgl_ | exact rfl | exact one1 rfl | skip)))))
  all_goals trace_state
def c_LApI (t : Tb) (k : GKernel) (ss : List GSpan) (l : List GLate) (r : LSt) : CFD := ⟨9, [.agg [ro 33 1 eIntS k.Machine.Frames.Cells, ro 4 1 Tr.eB k.Machine.Frames.Used, ro 51 2 eEntry k.Machine.Table.Entries, (CV.lit (.int .i64 (k.Calls))), ro 3 1 Tr.eI k.Refuse], .one (ro 49 3 eSpan ss), .one (ro 43 2 eLate l)], [], .tup [.agg [.hd 0, .hd 1, .hd 2, (CV.lit (.int .i64 (r.k.Calls))), .hd 3], .one (.hd 4), .one (.hd 5)], [(0, some (.row 33 1 (r.k.Machine.Frames.Cells.map eIntS))), (1, some (.row 4 1 (r.k.Machine.Frames.Used.map Tr.eB))), (2, some (.row 51 2 (r.k.Machine.Table.Entries.map eEntry))), (3, some (.row 3 1 (r.k.Refuse.map Tr.eI))), (4, some (.row 49 3 (r.ss.map eSpan))), (5, some (.row 43 2 (r.w.map eLate)))], [0, 1, 2, 3, 4, 5], t.both⟩
set_option maxHeartbeats 4000000 in
theorem fn_LApI (t : Tb) (k : GKernel) (ss : List GSpan) (l : List GLate) (r : LSt) (hs : szK8 k) (hss : ss.length ≤ 1048576) (hl : l.length ≤ 1048576) (h : pLateApply k ss l = r) : Fn Tryd.prog (c_LApI t k ss l r) := by
  obtain ⟨T, hT⟩ : ∃ T : Nat → LSt, ∀ i, T i = lateRun ⟨k, ss, []⟩ (l.take i) := ⟨_, fun _ => rfl⟩
  have h0 : T 0 = ⟨k, ss, []⟩ := by rw [hT]; rfl
  have hN : T l.length = r := by rw [hT, List.take_length]; exact h
  have hsucc : ∀ i, i < l.length → T (i + 1) = lateStep (T i) (l.getD i noLt) := fun i hi => by rw [hT, hT]; exact lateRun_take _ hi
  have hinv : ∀ i, LInv k ss (T i) := fun i => by rw [hT]; exact linv_run _ (linv_start _ _ _)
  have hst : pStill r.k r.ss l = r.w := by rw [← h]; exact still_run k ss l
  have hsr := szK8_kept hs (hinv l.length).k
  rw [hN] at hsr
  have hoff := fn_off t r.k r.ss l r.w hsr hl hst
  clear hT
  refine fn_defers tt_ok Tryd.func9 rfl Tryd.call9 Tryd.ntmps9 rfl rfl rfl rfl ?_
  intro X ρ0 hb_ hgl_ hds_
  dsimp only [c_LApI]
  try refine nrm ?_
  refine aq_seq ?_
  refine aq_cut ?_
  repeat' (refine ar_id ?_; first | refine st1 ?_ | (first | ((first | refine ar_region tt_ok (inps := []) rfl ?_ ?_); rotate_left; (try refine nrm ?_); rotate_right) | refine ret3 ?_ | refine end3 ?_) | (refine ar_cond rfl trivial ?_ ?_ <;> intro hc_ <;> (try simp only [isNilI, inB, reduceCtorEq, cds] at hc_) <;> (try (first | contradiction | (exfalso; omega)))) | refine ar_until (And.intro ?_ (wk3 ?_)) | fail)
  all_goals (first | refine ar_id ?_ | (try (focus ((try refine nrmO ?_); (repeat' (first | exact True.intro | refine And.intro ?_ ?_)); all_goals (try (intro (hg_ : _ = true); (try simp only [isNilI, inB, reduceCtorEq, cds] at hg_); (repeat' (first | exact True.intro | refine And.intro ?_ ?_)))); all_goals (first | exact ob1 | skip)))))
  refine ar_until ?_
  refine aq_seq ?_
  refine aq_cut ?_
  repeat' (refine ar_id ?_; first | refine st1 ?_ | (first | ((first | refine ar_region (id := 1) tt_ok (inps := [.call (c_CopyKI k), .call (c_CloneSp ss)]) rfl ?_ ?_ | refine ar_region tt_ok (inps := []) rfl ?_ ?_); rotate_left; (try dsimp only [c_CloneSp, c_CopyKI]); (try refine nrm ?_); rotate_right) | refine ret3 ?_ | refine end3 ?_) | (refine ar_cond rfl trivial ?_ ?_ <;> intro hc_ <;> (try simp only [isNilI, inB, reduceCtorEq, cds] at hc_) <;> (try (first | contradiction | (exfalso; omega)))) | refine ar_until (And.intro ?_ (wk3 ?_)) | fail)
  all_goals (first | refine ar_id ?_ | (try (focus ((try refine nrmO ?_); (repeat' (first | exact True.intro | refine And.intro ?_ ?_)); all_goals (try (intro (hg_ : _ = true); (try simp only [isNilI, inB, reduceCtorEq, cds] at hg_); (repeat' (first | exact True.intro | refine And.intro ?_ ?_)))); all_goals (first | exact ob1 | exact fn_CopyKI _ (szK_from16 hs) | exact fn_CloneSp _ hss | exact hgl_.1 | exact hgl_.2.1 | exact hgl_.2.2.1 | exact hgl_.2.2.2.1 | exact hgl_.2.2.2.2.1 | exact hgl_.2.2.2.2.2.1 | exact hgl_.2.2.2.2.2.2.1 | exact hgl_.2.2.2.2.2.2.2.1 | exact hgl_ | exact rfl | exact one1 rfl | skip)))))
  refine ar_until ?_
  refine aq_seq ?_
  refine aq_run [] ?_
  refine as_cons3 tt_ok ?_ ?_
  · try refine nrm ?_
    refine as_defer (bs := [5, 6, 7, 8]) rfl rfl rfl rfl hds_ (fun q h => by cases h) (fun r j h => ?_) ?_
    · simp only [List.mem_cons, List.not_mem_nil, or_false, Option.some.injEq, Prod.mk.injEq] at h ⊢
      omega
    intro X' ρ' hb' vs ho_ hE_ hG_
    have hgl' := glAll_mono hG_ hgl_
    refine aq_ar (R := FinD Tryd.prog ⟨X', ρ', [5, 6, 7, 8], 45, hb'⟩ tt [.cell 6 35, .cell 7 36, .cell 8 39] (c_LApI t k ss l r) 30 _) rfl (fun a w hx => ⟨finD_ends tt_ok Tryd.results9 hb_ hds_ ho_ hE_ hx, finD_ends tt_ok Tryd.results9 hb_ hds_ ho_ hE_ hx⟩) ?_
    clear hgl_
    have hgl_ := hgl'
    repeat' (refine ar_id ?_; first | refine st1 ?_ | (first | ((first | refine ar_region tt_ok (inps := []) rfl ?_ ?_); rotate_left; (try refine nrm ?_); rotate_right) | refine ret3 ?_ | refine end3 ?_) | (refine ar_cond rfl trivial ?_ ?_ <;> intro hc_ <;> (try simp only [isNilI, inB, reduceCtorEq, cds] at hc_) <;> (try (first | contradiction | (exfalso; omega)))) | refine ar_until (And.intro ?_ (wk3 ?_)) | fail)
    all_goals (first | refine ar_id ?_ | (try (focus ((try refine nrmO ?_); (repeat' (first | exact True.intro | refine And.intro ?_ ?_)); all_goals (try (intro (hg_ : _ = true); (try simp only [isNilI, inB, reduceCtorEq, cds] at hg_); (repeat' (first | exact True.intro | refine And.intro ?_ ?_)))); all_goals (first | exact ob1 | exact hgl_.1 | exact hgl_.2.1 | exact hgl_.2.2.1 | exact hgl_.2.2.2.1 | exact hgl_.2.2.2.2.1 | exact hgl_.2.2.2.2.2.1 | exact hgl_.2.2.2.2.2.2.1 | exact hgl_.2.2.2.2.2.2.2.1 | exact hgl_ | exact rfl | exact one1 rfl | skip)))))
    unfold c_off at hoff
    refine ar_keep 460271 (by dsimp only [keepS] <;> exact rfl) ?_
    refine ar_forM (l.length) (fun i => True) (fun i => [(18, (TV.sv (.one (.lit (.int .i64 (i))))))]) (fun i => [(6, some (.box 35 [.hd 13000, .hd 13001, .hd 13002, (CV.lit (.int .i64 (((T i).k).Calls))), .hd 13003])), (13000, some (.row 33 1 (((T i).k).Machine.Frames.Cells.map eIntS))), (13001, some (.row 4 1 (((T i).k).Machine.Frames.Used.map Tr.eB))), (13002, some (.row 51 2 (((T i).k).Machine.Table.Entries.map eEntry))), (13003, some (.row 3 1 (((T i).k).Refuse.map Tr.eI))), (15000, some (.row 49 3 ((T i).ss.map eSpan)))]) ?_ ?_ ?_
    rotate_left
    · first | trivial | simp
    (dsimp only [rnCap, capSVs, Int.toNat_natCast, ro, Nat.reduceAdd, Nat.reduceMul, Nat.zero_add, List.map, putT, app, wrapG, gOb, argT, keys, slotOf, dropped, gAnd, wB, rnT, rnS, rnC, rnCs, rnSs, rnM, rnB, rnN, rn, lk, St.over, ded, delL, keepT, menT, menSs, menS, menCs, menC, hasN, resT, SV.cells]; refine wk3 ?_; (focus ((try refine nrmO ?_); (repeat' (first | exact True.intro | refine And.intro ?_ ?_)); all_goals (try (intro (hg_ : _ = true); (try simp only [isNilI, inB, reduceCtorEq, cds] at hg_); (repeat' (first | exact True.intro | refine And.intro ?_ ?_)))); all_goals (first | exact ob1 | exact rfl | skip))))
    rotate_right
    intro i hi_ hiI_
    dsimp only [rnCap, capSVs, Int.toNat_natCast, ro, Nat.reduceAdd, Nat.reduceMul, Nat.zero_add, List.map, putT, app, wrapG, gOb, argT, keys, slotOf, dropped, gAnd, wB, rnT, rnS, rnC, rnCs, rnSs, rnM, rnB, rnN, rn, lk, St.over, ded, delL, keepT, menT, menSs, menS, menCs, menC, hasN, resT, SV.cells]
    have hIi := hinv i
    have hsi := szK8_kept hs hIi.k
    have hni := hIi.n
    obtain ⟨x, hx⟩ : ∃ x, l.getD i noLt = x := ⟨_, rfl⟩
    by_cases hi : i < l.length
    · have hst := hsucc i hi
      rw [hx] at hst
      have hel : Elem (D.cat (l.map eLate)) 2 l.length ((i : Int)).toNat (eLate x) := elem_map (fun _ => rfl) (show l[i]? = some x by rw [← hx]; exact getD_at hi)
      by_cases hin : isIn x (T i).ss.length
      · obtain ⟨⟨k2, s2, e⟩, hr⟩ : ∃ r, pFreeSlot (T i).k ((T i).ss.getD x.Index.toNat noSp) x.Slot = r := ⟨_, rfl⟩
        unfold lateStep at hst
        rw [if_pos hin, hr] at hst
        have hes : ((T i).ss.map eSpan)[x.Index.toNat]? = some (eSpan ((T i).ss.getD x.Index.toNat noSp)) := map_at (by have := hin.1; have := hin.2; omega)
        have hk1 : (T (i + 1)).k = k2 := by rw [hst]
        have hs1 : (T (i + 1)).ss = (T i).ss.set x.Index.toNat s2 := by rw [hst]
        have hi1 := hin.1
        have hi2 := hin.2
        have hF := fn_FrI t _ _ _ _ _ _ hsi hr
        repeat' (refine ar_id ?_; first | refine st1 ?_ | (refine ar_drawS (id := 7) tt_ok (by kernel_rfl) [.elem (eSpan ((T i).ss.getD x.Index.toNat noSp)), .call (c_FrI t (T i).k ((T i).ss.getD x.Index.toNat noSp) x.Slot k2 s2 e), .elem (eSpan ((T i).ss.getD x.Index.toNat noSp))] ?_; refine ed_hide ?_; intro K_ hK_; repeat' (first | ((first | refine ed_call3 ?_ | refine ed_sure3 ?_ | refine ed_cons3 ?_); refine ed_hide ?_; intro K_ hK_; (try dsimp only [c_FrI, c_isIn]); (try refine nrmE ?_)) | (refine ed_nil ?_; (repeat subst hK_); dsimp only; refine Exists.intro _ (And.intro rfl (And.intro (by kernel_rfl) (And.intro ?_ ?_))); rotate_left; (try dsimp only [c_FrI, c_isIn]); (try refine nrm ?_); rotate_right))) | (first | ((first | refine ar_region (id := 5) tt_ok (inps := [.elem (eLate x)]) rfl ?_ ?_ | refine ar_region (id := 6) tt_ok (inps := [.call (c_isIn x (T i).ss)]) rfl ?_ ?_ | refine ar_region tt_ok (inps := []) rfl ?_ ?_); rotate_left; (try dsimp only [c_FrI, c_isIn]); (try refine nrm ?_); rotate_right) | refine ret3 ?_ | refine end3 ?_) | (refine ar_cond rfl trivial ?_ ?_ <;> intro hc_ <;> (try simp only [isNilI, inB, reduceCtorEq, cds] at hc_) <;> (try (first | contradiction | (exfalso; omega) | (exfalso; first | omega | (exact hc_ hin))))) | refine ar_until (And.intro ?_ (wk3 ?_)) | fail)
        all_goals (first | refine ar_id ?_ | (try (focus ((try refine nrmO ?_); (repeat' (first | exact True.intro | refine And.intro ?_ ?_)); all_goals (try (intro (hg_ : _ = true); (try simp only [isNilI, inB, reduceCtorEq, cds] at hg_); (repeat' (first | exact True.intro | refine And.intro ?_ ?_)))); all_goals (first | exact ob1 | exact hel | exact fn_isIn _ _ | exact hes | exact hF | exact hgl_.1 | exact hgl_.2.1 | exact hgl_.2.2.1 | exact hgl_.2.2.2.1 | exact hgl_.2.2.2.2.1 | exact hgl_.2.2.2.2.2.1 | exact hgl_.2.2.2.2.2.2.1 | exact hgl_.2.2.2.2.2.2.2.1 | exact hgl_ | exact rfl | exact one1 rfl | skip)))))
        all_goals first | (rw [hk1]; done) | (rw [hs1, List.map_set]; rfl) | trace_state
      · unfold lateStep at hst
        rw [if_neg hin] at hst
        repeat' (refine ar_id ?_; first | refine st1 ?_ | (first | ((first | refine ar_region (id := 5) tt_ok (inps := [.elem (eLate x)]) rfl ?_ ?_ | refine ar_region (id := 6) tt_ok (inps := [.call (c_isIn x (T i).ss)]) rfl ?_ ?_ | refine ar_region tt_ok (inps := []) rfl ?_ ?_); rotate_left; (try dsimp only [c_isIn]); (try refine nrm ?_); rotate_right) | refine ret3 ?_ | refine end3 ?_) | (refine ar_cond rfl trivial ?_ ?_ <;> intro hc_ <;> (try simp only [isNilI, inB, reduceCtorEq, cds] at hc_) <;> (try (first | contradiction | (exfalso; omega) | (exfalso; first | omega | (exact hin hc_))))) | refine ar_until (And.intro ?_ (wk3 ?_)) | fail)
        all_goals (first | refine ar_id ?_ | (try (focus ((try refine nrmO ?_); (repeat' (first | exact True.intro | refine And.intro ?_ ?_)); all_goals (try (intro (hg_ : _ = true); (try simp only [isNilI, inB, reduceCtorEq, cds] at hg_); (repeat' (first | exact True.intro | refine And.intro ?_ ?_)))); all_goals (first | exact ob1 | exact hel | exact fn_isIn _ _ | exact hgl_.1 | exact hgl_.2.1 | exact hgl_.2.2.1 | exact hgl_.2.2.2.1 | exact hgl_.2.2.2.2.1 | exact hgl_.2.2.2.2.2.1 | exact hgl_.2.2.2.2.2.2.1 | exact hgl_.2.2.2.2.2.2.2.1 | exact hgl_ | exact rfl | exact one1 rfl | skip)))))
        all_goals first | (rw [hst]; done) | trace_state
    · have hie : i = l.length := by omega
      subst hie
      rw [hN]
      repeat' (refine ar_id ?_; first | refine st1 ?_ | (refine ar_drawS (id := 9) tt_ok (by kernel_rfl) [] ?_; refine ed_hide ?_; intro K_ hK_; repeat' (first | ((first | refine ed_call3 ?_ | refine ed_sure3 ?_ | refine ed_cons3 ?_); refine ed_hide ?_; intro K_ hK_; (try refine nrmE ?_)) | (refine ed_nil ?_; (repeat subst hK_); dsimp only; refine Exists.intro _ (And.intro rfl (And.intro (by kernel_rfl) (And.intro ?_ ?_))); rotate_left; (try refine nrm ?_); rotate_right))) | (first | ((first | refine ar_region tt_ok (inps := []) rfl ?_ ?_); rotate_left; (try refine nrm ?_); rotate_right) | refine ret3 ?_ | refine end3 ?_) | (refine ar_cond rfl trivial ?_ ?_ <;> intro hc_ <;> (try simp only [isNilI, inB, reduceCtorEq, cds] at hc_) <;> (try (first | contradiction | (exfalso; omega) | (exfalso; omega)))) | refine ar_until (And.intro ?_ (wk3 ?_)) | fail)
      all_goals (first | refine ar_id ?_ | (try (focus ((try refine nrmO ?_); (repeat' (first | exact True.intro | refine And.intro ?_ ?_)); all_goals (try (intro (hg_ : _ = true); (try simp only [isNilI, inB, reduceCtorEq, cds] at hg_); (repeat' (first | exact True.intro | refine And.intro ?_ ?_)))); all_goals (first | exact ob1 | exact hgl_.1 | exact hgl_.2.1 | exact hgl_.2.2.1 | exact hgl_.2.2.2.1 | exact hgl_.2.2.2.2.1 | exact hgl_.2.2.2.2.2.1 | exact hgl_.2.2.2.2.2.2.1 | exact hgl_.2.2.2.2.2.2.2.1 | exact hgl_ | exact rfl | exact one1 rfl | skip)))))
      refine retd3 60 hoff ?_ ?_
      · dsimp only [okD]
        all_goals (try (focus ((try refine nrmO ?_); (repeat' (first | exact True.intro | refine And.intro ?_ ?_)); all_goals (try (intro (hg_ : _ = true); (try simp only [isNilI, inB, reduceCtorEq, cds] at hg_); (repeat' (first | exact True.intro | refine And.intro ?_ ?_)))); all_goals (first | exact ob1 | exact hgl_.1 | exact hgl_.2.1 | exact hgl_.2.2.1 | exact hgl_.2.2.2.1 | exact hgl_.2.2.2.2.1 | exact hgl_.2.2.2.2.2.1 | exact hgl_.2.2.2.2.2.2.1 | exact hgl_.2.2.2.2.2.2.2.1 | exact hgl_ | exact rfl | exact one1 rfl | skip))))
        all_goals trace_state
      · try refine nrm ?_
        refine fin3 ?_
        all_goals (try (focus ((try refine nrmO ?_); (repeat' (first | exact True.intro | refine And.intro ?_ ?_)); all_goals (try (intro (hg_ : _ = true); (try simp only [isNilI, inB, reduceCtorEq, cds] at hg_); (repeat' (first | exact True.intro | refine And.intro ?_ ?_)))); all_goals (first | exact ob1 | skip))))
        all_goals trace_state
    all_goals first | (rw [h0] <;> rfl) | trace_state
  all_goals exact ⟨⟩
end Eng
end Go.Proofs.YtgeakpeodhhffaaDoor
namespace Go.Proofs.YtgeakpeodhhffaaDoor
open Go.RowKit
set_option linter.unusedVariables false
set_option linter.unusedSimpArgs false
set_option maxRecDepth 100000
namespace Eng
open Tr
/-- a slice of bytes that came in -/
def IsRow (w : World) (a : Option Addr) (len cap : Nat) (zs : List Int) : Prop :=
  (a = none ∧ len = 0 ∧ cap = 0 ∧ zs = []) ∨
  ∃ x, a = some x ∧ len ≤ cap ∧ cap ≤ maxLen ∧ zs.length = cap ∧ (∀ i, i < zs.length → w.cell? (x.add i) = some (.int .u8 (zs.getD i 0))) ∧ ∀ n ∈ zs, (Lit.int .u8 n).wf = true
theorem lt_of_cell {w : World} {g o : Nat} {v : Value} (h : w.cell? ⟨g, o, none⟩ = some v) : g < w.heap.size := by
  rcases Nat.lt_or_ge g w.heap.size with h' | h'
  · exact h'
  · simp [World.cell?, Array.getElem?_eq_none h'] at h
theorem own_u8 {w : World} : ∀ l : List Int, RdO w (· < w.heap.size) (D.cat (l.map eU)) (l.map (Value.int .u8))
  | [] => rfl
  | x :: l => ⟨_, rfl, own_u8 l⟩
/-- the bytes that come in, as0 the engine reads them -/
theorem arg_bytes {w : World} {a : Option Addr} {len cap : Nat} {zs : List Int} (h : IsRow w a len cap zs) : ∃ bs : List Int, bs.length = len ∧ (∀ x ∈ bs, 0 ≤ x ∧ x ≤ 255) ∧ SRel (cxOf w) noEnv (.one (ro 5 1 eU bs)) (.slice a len cap) := by
  rcases h with ⟨rfl, rfl, rfl, rfl⟩ | ⟨x, rfl, h1, h2, h3, h4, h5⟩
  · exact ⟨[], rfl, (fun x hx => (nomatch hx)), _, [], rfl, rfl, .inl ⟨⟨none, 0, rfl, fun _ => rfl⟩, rfl, rfl⟩⟩
  · refine ⟨zs.take len, by rw [List.length_take]; omega, fun y hy => ?_, ?_⟩
    · have := h5 y (List.mem_of_mem_take hy)
      simp [Lit.wf] at this
      have hm : IntKind.u8.min = 0 := rfl
      have hM : IntKind.u8.max = 255 := rfl
      omega
    · by_cases hc : cap = 0
      · have hl : len = 0 := by omega
        subst hl hc
        exact ⟨_, [], rfl, rfl, .inl ⟨⟨some x, 0, rfl, fun _ => rfl⟩, rfl, rfl⟩⟩
      · have h0 := h4 0 (by omega)
        have ha : x.add 0 = x := by unfold Addr.add; rw [if_pos rfl]
        rw [ha] at h0
        have e := addr_of_cell h0
        have hlen : (zs.take len).length = len := by rw [List.length_take]; omega
        refine ⟨_, [], rfl, rfl, .inr ⟨x.block, x.off, cap, (zs.take len).map (Value.int .u8), ?_, ?_, h2, ?_, fun j hj => ?_, fun hp => ?_, own_u8 _⟩⟩
        · rw [← e, hlen]
        · rw [hlen]; exact h1
        · rw [List.length_map, Nat.mul_one]
        · rw [hlen, Nat.mul_one] at hj
          have h6 := h4 j (by omega)
          rw [e, Addr.add_lit] at h6
          show w.cell? _ = _
          rw [h6, List.getElem?_map, List.getElem?_take, if_pos hj, List.getElem?_eq_getElem (by omega)]
          simp [List.getD_eq_getElem?_getD, List.getElem?_eq_getElem (show j < zs.length by omega)]
        · have h6 := h4 0 (by omega)
          rw [ha, e] at h6
          exact lt_of_cell h6
def c_big (bs : List Int) : CFD := ⟨6, [.one (ro 5 1 eU bs)], [], (TV.sv (.one (.lit (.bool (decide (1048576 < (bs.length : Int))))))), [], [], []⟩
theorem fn_big (bs : List Int) : Fn Tryd.prog (c_big bs) := by
  refine fn_intro tt_ok Tryd.func6 rfl Tryd.call6 Tryd.ntmps6 Tryd.results6 rfl rfl rfl rfl ?_
  intro X ρ0 hb_ hgl_
  dsimp only [c_big]
  try refine nrm ?_
  repeat' (refine ar_id ?_; first | refine st1 ?_ | (first | ((first | refine ar_region tt_ok (inps := []) rfl ?_ ?_); rotate_left; (try refine nrm ?_); rotate_right) | refine ret3 ?_ | refine end3 ?_) | (refine ar_cond rfl trivial ?_ ?_ <;> intro hc_ <;> (try simp only [isNilI, inB, reduceCtorEq, cds] at hc_) <;> (try (first | contradiction | (exfalso; omega)))) | refine ar_until (And.intro ?_ (wk3 ?_)))
  all_goals (first | refine ar_id ?_ | (try (focus ((try refine nrmO ?_); (repeat' (first | exact True.intro | refine And.intro ?_ ?_)); all_goals (try (intro (hg_ : _ = true); (try simp only [isNilI, inB, reduceCtorEq, cds] at hg_); (repeat' (first | exact True.intro | refine And.intro ?_ ?_)))); all_goals (first | exact ob1 | skip)))))
end Eng
end Go.Proofs.YtgeakpeodhhffaaDoor
namespace Go.Proofs.YtgeakpeodhhffaaDoor
open Go.RowKit
set_option linter.unusedVariables false
set_option linter.unusedSimpArgs false
set_option maxRecDepth 100000
namespace Tr
open Bm Cl
theorem unset_has {b i : Int} (hb : 0 ≤ b) (hi : 0 ≤ i ∧ i ≤ 15) : has (unset b i) i = false := by
  obtain ⟨n, rfl⟩ := Int.eq_ofNat_of_zero_le hb
  obtain ⟨j, rfl⟩ := Int.eq_ofNat_of_zero_le hi.1
  exact has_unset_self n j (by omega)
/-- slots that stay free -/
theorem unset_sub {b i j : Int} (hb : 0 ≤ b) (hi : 0 ≤ i ∧ i ≤ 15) (hj : 0 ≤ j ∧ j ≤ 15) (h : has (unset b i) j = true) : has b j = true := by
  by_cases e : j = i
  · subst e; rw [unset_has hb hi] at h; cases h
  · obtain ⟨n, rfl⟩ := Int.eq_ofNat_of_zero_le hb
    obtain ⟨a, rfl⟩ := Int.eq_ofNat_of_zero_le hi.1
    obtain ⟨c, rfl⟩ := Int.eq_ofNat_of_zero_le hj.1
    rw [has_unset n a c (by omega) (by omega) (by omega)] at h
    exact h
theorem clr_le (n i : Nat) : clr n i ≤ n := Nat.and_le_left
theorem span_fr {k : GKernel} {s : GSpan} {slot : Int} (h : pSpanOk s = true) : pSpanOk (pFreeSlot k s slot).2.1 = true ∧ ∀ j, 0 ≤ j ∧ j ≤ 15 → has (pFreeSlot k s slot).2.1.Bits j = true → has s.Bits j = true := by
  unfold pFreeSlot
  split
  · rename_i h0
    have h1 : pSpanOk s = true ∧ has s.Bits slot = true := by
      rcases fr_cases k s slot with ⟨h, _⟩ | ⟨h, _⟩ | ⟨h, _⟩ | ⟨_, h, _⟩
      · rw [h] at h0; cases h0
      · rw [h] at h0; cases h0
      · rw [h] at h0; cases h0
      · exact h
    have hb := bits_bd h
    have hs := slot_bds h1.1 h1.2
    have hm := map_bd (span_parts h).2
    have hs16 := (slots_bd s.Class).2
    refine ⟨?_, fun j hj hh => unset_sub hb.1 (by omega) hj hh⟩
    unfold pSpanOk
    dsimp only
    rw [Bool.and_eq_true, decide_eq_true_eq]
    refine ⟨(span_parts h).1, ?_⟩
    unfold isMap
    rw [decide_eq_true_eq]
    obtain ⟨n, hn⟩ := Int.eq_ofNat_of_zero_le hb.1
    have hu : unset s.Bits slot = ((clr n slot.toNat : Nat) : Int) := by
      unfold unset
      rw [if_pos ⟨hb.1, hs.1, by omega⟩, hn, Int.toNat_natCast]
    have := clr_le n slot.toNat
    refine ⟨hm.1, hm.2.1, by rw [hu]; omega, ?_⟩
    have h4 := hm.2.2.2
    rw [hu]
    omega
  · exact ⟨h, fun j _ hh => hh⟩
/-- frees of a list, on spans that are mapped: those that need not wait are done -/
structure LOk (k0 : GKernel) (ss0 : List GSpan) (s : LSt) : Prop where
  inv : LInv k0 ss0 s
  sp : ∀ j, j < s.ss.length → pSpanOk (s.ss.getD j noSp) = true
theorem sub_step {k0 : GKernel} {ss0 : List GSpan} {s : LSt} (h : LOk k0 ss0 s) (x : GLate) : LOk k0 ss0 (lateStep s x) ∧ ∀ j q, j < s.ss.length → 0 ≤ q ∧ q ≤ 15 → has ((lateStep s x).ss.getD j noSp).Bits q = true → has (s.ss.getD j noSp).Bits q = true := by
  have h1 := linv_step h.inv x
  unfold lateStep at h1 ⊢
  split at h1
  · rename_i hi
    have hin : x.Index.toNat < s.ss.length := by have := hi.1; have := hi.2; omega
    have hg : ∀ j, (s.ss.set x.Index.toNat (pFreeSlot s.k (s.ss.getD x.Index.toNat noSp) x.Slot).2.1).getD j noSp = if x.Index.toNat = j ∧ j < s.ss.length then (pFreeSlot s.k (s.ss.getD x.Index.toNat noSp) x.Slot).2.1 else s.ss.getD j noSp := getD_setS _ _ _
    have hsf := span_fr (k := s.k) (slot := x.Slot) (h.sp _ hin)
    rw [if_pos hi]
    refine ⟨⟨h1, fun j hj => ?_⟩, fun j q hj hq hh => ?_⟩
    · dsimp only at hj ⊢
      rw [List.length_set] at hj
      rw [hg]
      split
      · exact hsf.1
      · exact h.sp j hj
    · dsimp only at hh
      rw [hg] at hh
      split at hh
      · rename_i e
        rw [← e.1]
        exact hsf.2 q hq hh
      · exact hh
  · rename_i hi
    rw [if_neg hi]
    exact ⟨h, fun _ _ _ _ hh => hh⟩
theorem sub_run {k0 : GKernel} {ss0 : List GSpan} : ∀ (l : List GLate) {s : LSt}, LOk k0 ss0 s → LOk k0 ss0 (lateRun s l) ∧ ∀ j q, j < s.ss.length → 0 ≤ q ∧ q ≤ 15 → has ((lateRun s l).ss.getD j noSp).Bits q = true → has (s.ss.getD j noSp).Bits q = true
  | [], s, h => ⟨h, fun _ _ _ _ hh => hh⟩
  | x :: l, s, h => by
    obtain ⟨h1, h2⟩ := sub_step h x
    obtain ⟨h3, h4⟩ := sub_run l h1
    refine ⟨h3, fun j q hj hq hh => h2 j q hj hq (h4 j q ?_ hq hh)⟩
    rw [h1.inv.n, ← h.inv.n]; exact hj
theorem done_step {k0 : GKernel} {ss0 : List GSpan} {s : LSt} (h : LOk k0 ss0 s) (hk : okK k0) {j q : Nat} (hj : j < s.ss.length) (hq : q ≤ 15) (h0 : modeOf k0 (ss0.getD j noSp).Page ≠ 0) (h1 : modeOf k0 (ss0.getD j noSp).Page ≠ 1) : has ((lateStep s ⟨(j : Int), (q : Int)⟩).ss.getD j noSp).Bits (q : Int) = false := by
  have hi : isIn ⟨(j : Int), (q : Int)⟩ s.ss.length := ⟨by show (0 : Int) ≤ (j : Int); omega, by show (j : Int) < _; omega⟩
  unfold lateStep
  rw [if_pos hi]
  dsimp only
  rw [Int.toNat_natCast, getD_setS, if_pos ⟨rfl, hj⟩]
  have hsp := h.sp j hj
  have hp := (h.inv.p j).1
  have hb := bits_bd hsp
  by_cases hh : has (s.ss.getD j noSp).Bits (q : Int) = true
  · have hc : frCode s.k (s.ss.getD j noSp) (q : Int) = 0 := by
      unfold frCode
      rw [if_neg (fun x => x ⟨hsp, hh⟩), if_neg ?_, if_neg ?_]
      · rw [h.inv.k.mode, hp]; exact h1
      · rintro (x | x)
        · exact x (h.inv.k.ok.2 hk)
        · rw [h.inv.k.mode, hp] at x; exact h0 x
    unfold pFreeSlot
    rw [if_pos hc]
    exact unset_has hb.1 (by omega)
  · have hf : has (s.ss.getD j noSp).Bits (q : Int) = false := by simpa using hh
    cases hx : has (pFreeSlot s.k (s.ss.getD j noSp) (q : Int)).2.1.Bits (q : Int) with
    | false => rfl
    | true => exact absurd ((span_fr hsp).2 (q : Int) (by omega) hx) hh
theorem done_run {k0 : GKernel} {ss0 : List GSpan} (hk : okK k0) {j q : Nat} (hq : q ≤ 15) (h0 : modeOf k0 (ss0.getD j noSp).Page ≠ 0) (h1 : modeOf k0 (ss0.getD j noSp).Page ≠ 1) : ∀ (l : List GLate) {s : LSt}, LOk k0 ss0 s → j < s.ss.length → (⟨(j : Int), (q : Int)⟩ : GLate) ∈ l → has ((lateRun s l).ss.getD j noSp).Bits (q : Int) = false
  | [], _, _, _, h => by cases h
  | x :: l, s, h, hj, hm => by
    obtain ⟨g1, g2⟩ := sub_step h x
    have hj' : j < (lateStep s x).ss.length := by rw [g1.inv.n, ← h.inv.n]; exact hj
    rcases List.mem_cons.1 hm with rfl | hm
    · have hd := done_step h hk hj hq h0 h1
      obtain ⟨_, g4⟩ := sub_run l g1
      cases hx : has ((lateRun s (⟨(j : Int), (q : Int)⟩ :: l)).ss.getD j noSp).Bits (q : Int) with
      | false => rfl
      | true => have := g4 j (q : Int) hj' (by omega) hx; rw [hd] at this; cases this
    · exact done_run hk hq h0 h1 l g1 hj' hm
end Tr
end Go.Proofs.YtgeakpeodhhffaaDoor
namespace Go.Proofs.YtgeakpeodhhffaaDoor
open Go.RowKit
set_option linter.unusedVariables false
set_option linter.unusedSimpArgs false
namespace Tr
open Bm Cl
/-- the frees of the slots 0 to 3 of the spans, one behind the other -/
def lateL (m : Nat) : List GLate := (List.range m).map fun j => ⟨((j / 4 : Nat) : Int), ((j % 4 : Nat) : Int)⟩
theorem lateL_len (m : Nat) : (lateL m).length = m := by unfold lateL; rw [List.length_map, List.length_range]
theorem lateL_mem {m i q : Nat} (hq : q < 4) : (⟨(i : Int), (q : Int)⟩ : GLate) ∈ lateL m ↔ 4 * i + q < m := by
  unfold lateL
  rw [List.mem_map]
  constructor
  · rintro ⟨j, hj, e⟩
    rw [GLate.mk.injEq] at e
    have := List.mem_range.1 hj
    omega
  · intro h
    refine ⟨4 * i + q, List.mem_range.2 h, ?_⟩
    rw [GLate.mk.injEq]
    omega
theorem lateL_add {i q : Nat} (hi : i < 3) (hq : q < 4) : pLateAdd (lateL (4 * i + q)) ⟨(i : Int), (q : Int)⟩ = (lateL (4 * i + (q + 1)), true) := by
  unfold pLateAdd
  rw [if_neg ?_]
  · unfold lateL
    rw [show 4 * i + (q + 1) = (4 * i + q) + 1 by omega, List.range_succ, List.map_append]
    congr 3
    show _ = (⟨(((4 * i + q) / 4 : Nat) : Int), (((4 * i + q) % 4 : Nat) : Int)⟩ : GLate)
    rw [show (4 * i + q) / 4 = i by omega, show (4 * i + q) % 4 = q by omega]
  · rintro (h | h)
    · rw [lateL_mem hq] at h; omega
    · rw [lateL_len] at h; omega
theorem late_twice : pLateAdd [⟨1, 0⟩] ⟨1, 0⟩ = ([⟨1, 0⟩], false) := by decide
/-- the table, the spans' pages one after another writable again -/
def openT (ss : List GSpan) (t : GTable) : Nat → GTable
  | 0 => t
  | i + 1 => (pSetPage (openT ss t i) (ss.getD i noSp).Page ⟨2, (pPageEntry (openT ss t i) (ss.getD i noSp).Page).Frame⟩).1
theorem okM_mode {m : GMachine} (h : okM m) {p : Int} (hm : (pPageEntry m.Table p).Mode ≠ 0) : okM (setEntry m p.toNat ⟨2, (pPageEntry m.Table p).Frame⟩) := by
  have hk : canCall ⟨m, 0, []⟩ := ⟨⟨h, ⟨Int.le_refl _, (by show (0 : Int) ≤ 100000; decide)⟩, fun x hx => (by cases hx), Nat.zero_le _⟩, (by show (0 : Int) < 100000; decide)⟩
  have hl := (law_protect hk p 2).ok
  unfold pKProtect at hl
  rw [if_pos hk] at hl
  unfold pProtect at hl
  rw [if_pos ⟨(by unfold granted; simp), hm, by decide⟩] at hl
  exact hl.1
theorem set_page {m : GMachine} (h : okM m) {p : Int} (hm : (pPageEntry m.Table p).Mode ≠ 0) : pSetPage m.Table p ⟨2, (pPageEntry m.Table p).Frame⟩ = ((setEntry m p.toNat ⟨2, (pPageEntry m.Table p).Frame⟩).Table, true) ∧ 0 ≤ p ∧ p < m.Table.Entries.length := by
  obtain ⟨f, hf, _⟩ := okM_entry h hm
  have hp : 0 ≤ p ∧ p < m.Table.Entries.length := by
    unfold pPageEntry at hm
    split at hm
    · rename_i h; exact h
    · exact absurd rfl hm
  unfold pSetPage
  rw [if_pos ⟨hp, .inr ⟨.inr rfl, by rw [hf]; exact Int.natCast_nonneg f⟩⟩]
  exact ⟨rfl, hp⟩
structure OpenI (m : GMachine) (ss : List GSpan) (i : Nat) : Prop where
  ok : okM ⟨m.Frames, openT ss m.Table i⟩
  md : ∀ q, (pPageEntry m.Table q).Mode ≠ 0 → (pPageEntry (openT ss m.Table i) q).Mode ≠ 0
  two : ∀ j, j < i → (pPageEntry (openT ss m.Table i) (ss.getD j noSp).Page).Mode = 2
  n : (openT ss m.Table i).Entries.length = m.Table.Entries.length
theorem open_inv {m : GMachine} {ss : List GSpan} (h : okM m) (hm : ∀ j, j < ss.length → (pPageEntry m.Table (ss.getD j noSp).Page).Mode ≠ 0) : ∀ i, i ≤ ss.length → OpenI m ss i
  | 0, _ => ⟨h, fun _ hq => hq, fun j hj => (by omega), rfl⟩
  | i + 1, hi => by
    have ih := open_inv h hm i (by omega)
    have hmi := ih.md _ (hm i (by omega))
    obtain ⟨s1, s2, s3⟩ := set_page ih.ok hmi
    have e : openT ss m.Table (i + 1) = (setEntry ⟨m.Frames, openT ss m.Table i⟩ (ss.getD i noSp).Page.toNat ⟨2, (pPageEntry (openT ss m.Table i) (ss.getD i noSp).Page).Frame⟩).Table := congrArg Prod.fst s1
    have hE : ∀ q, pPageEntry (openT ss m.Table (i + 1)) q = if q = (ss.getD i noSp).Page ∧ (ss.getD i noSp).Page < (openT ss m.Table i).Entries.length then ⟨2, (pPageEntry (openT ss m.Table i) (ss.getD i noSp).Page).Frame⟩ else pPageEntry (openT ss m.Table i) q := fun q => by
      rw [e]; exact entry_setE ⟨m.Frames, openT ss m.Table i⟩ s2 _ q
    refine ⟨?_, fun q hq => ?_, fun j hj => ?_, ?_⟩
    · rw [e]; exact okM_mode ih.ok hmi
    · rw [hE]
      split
      · show (2 : Int) ≠ 0; decide
      · exact ih.md q hq
    · rw [hE]
      split
      · rfl
      · rename_i hne
        rcases Nat.lt_or_eq_of_le (Nat.lt_succ_iff.1 hj) with h3 | rfl
        · exact ih.two j h3
        · exact absurd ⟨rfl, s3⟩ hne
    · rw [e]
      show (List.set _ _ _).length = _
      rw [List.length_set]; exact ih.n
theorem getD_mem_sp {l : List GSpan} {j : Nat} (h : j < l.length) : l.getD j noSp ∈ l := by
  rw [List.getD_eq_getElem?_getD, List.getElem?_eq_getElem h]; exact List.getElem_mem _
/-- all is freed in the end -/
theorem late_end {k : GKernel} {ss : List GSpan} (hk : okK k) (hs : ∀ x ∈ ss, pSpanOk x = true ∧ modeOf k x.Page ≠ 0) {r1 r2 : LSt} (h1 : pLateApply k ss (lateL (4 * ss.length)) = r1)
    (h2 : pLateApply ⟨⟨r1.k.Machine.Frames, openT ss r1.k.Machine.Table ss.length⟩, r1.k.Calls, r1.k.Refuse⟩ r1.ss r1.w = r2) :
    okK r1.k ∧ r1.ss.length = ss.length ∧ (∀ j, j < ss.length → (pPageEntry r1.k.Machine.Table (ss.getD j noSp).Page).Mode ≠ 0) ∧ okK ⟨⟨r1.k.Machine.Frames, openT ss r1.k.Machine.Table ss.length⟩, r1.k.Calls, r1.k.Refuse⟩ ∧ okK r2.k ∧ r2.ss.length = ss.length ∧ r2.w = [] ∧
    ∀ j, j < ss.length → 0 ≤ (r2.ss.getD j noSp).Bits ∧ (r2.ss.getD j noSp).Bits < 65536 ∧ ∀ q, q < 4 → has (r2.ss.getD j noSp).Bits ((q : Nat) : Int) = false := by
  have i0 : LOk k ss ⟨k, ss, []⟩ := ⟨linv_start _ _ _, fun j hj => (hs _ (getD_mem_sp hj)).1⟩
  have i1 := sub_run (lateL (4 * ss.length)) i0
  have w1 := run_waits (lateL (4 * ss.length)) i0.inv
  unfold pLateApply at h1 h2
  rw [h1] at i1 w1
  have hk1 : okK r1.k := i1.1.inv.k.ok.2 hk
  have hm1 : ∀ j, j < ss.length → (pPageEntry r1.k.Machine.Table (ss.getD j noSp).Page).Mode ≠ 0 := fun j hj => by
    rw [i1.1.inv.k.t]; exact (hs _ (getD_mem_sp hj)).2
  have ho := open_inv hk1.1 hm1 ss.length (Nat.le_refl _)
  have hk2 : okK ⟨⟨r1.k.Machine.Frames, openT ss r1.k.Machine.Table ss.length⟩, r1.k.Calls, r1.k.Refuse⟩ := ⟨ho.ok, hk1.2⟩
  obtain ⟨K, hK⟩ : ∃ K : GKernel, K = ⟨⟨r1.k.Machine.Frames, openT ss r1.k.Machine.Table ss.length⟩, r1.k.Calls, r1.k.Refuse⟩ := ⟨_, rfl⟩
  rw [← hK] at h2 hk2 ⊢
  have hn1 := i1.1.inv.n
  have hmK : ∀ j, j < ss.length → modeOf K (r1.ss.getD j noSp).Page = 2 := fun j hj => by
    rw [(i1.1.inv.p j).1, hK]; exact ho.two j hj
  have i2 : LOk K r1.ss ⟨K, r1.ss, []⟩ := ⟨linv_start _ _ _, i1.1.sp⟩
  have i3 := sub_run r1.w i2
  have w2 := run_waits r1.w i2.inv
  rw [h2] at i3 w2
  have hn2 := i3.1.inv.n
  refine ⟨hk1, hn1, hm1, hk2, i3.1.inv.k.ok.2 hk2, by rw [hn2, hn1], ?_, fun j hj => ?_⟩
  · rw [w2]
    show [] ++ pStill K r1.ss r1.w = []
    rw [List.nil_append]
    unfold pStill
    rw [List.filter_eq_nil_iff]
    intro x hx hw
    have hw := of_decide_eq_true hw
    obtain ⟨hin, hc⟩ := hw
    have := (code_two.1 hc).2.2
    rw [hmK _ (by have := hin.1; have := hin.2; omega)] at this
    cases this
  · have hb := bits_bd (i3.1.sp j (by omega))
    refine ⟨hb.1, hb.2, fun q hq => ?_⟩
    have hst : has (r1.ss.getD j noSp).Bits ((q : Nat) : Int) = false → has (r2.ss.getD j noSp).Bits ((q : Nat) : Int) = false := fun hf => by
      cases hx : has (r2.ss.getD j noSp).Bits ((q : Nat) : Int) with
      | false => rfl
      | true =>
        have := i3.2 j (q : Int) (by show j < r1.ss.length; omega) (by omega) hx
        change has (r1.ss.getD j noSp).Bits (q : Int) = true at this
        rw [hf] at this; cases this
    have hmem : (⟨(j : Int), (q : Int)⟩ : GLate) ∈ lateL (4 * ss.length) := (lateL_mem hq).2 (by omega)
    obtain ⟨hso, hmo⟩ := hs _ (getD_mem_sp hj)
    by_cases hmd : modeOf k (ss.getD j noSp).Page = 1
    · by_cases hu : has (ss.getD j noSp).Bits (q : Int) = true
      · have hwt : waits k ss ⟨(j : Int), (q : Int)⟩ := ⟨⟨by show (0 : Int) ≤ (j : Int); omega, by show (j : Int) < _; omega⟩, by
          show frCode k (ss.getD ((j : Int)).toNat noSp) (q : Int) = 2
          rw [Int.toNat_natCast]
          exact code_two.2 ⟨⟨hso, hu⟩, hk, hmd⟩⟩
        have hwm : (⟨(j : Int), (q : Int)⟩ : GLate) ∈ r1.w := by
          rw [w1]
          show _ ∈ [] ++ pStill k ss _
          rw [List.nil_append]
          exact List.mem_filter.2 ⟨hmem, decide_eq_true hwt⟩
        have := done_run hk2 (by omega) (by rw [hmK j hj]; decide) (by rw [hmK j hj]; decide) r1.w i2 (by show j < r1.ss.length; omega) hwm
        rw [h2] at this
        exact this
      · refine hst ?_
        rw [i1.1.inv.r j hmd]
        simpa using hu
    · have := done_run hk (by omega) hmo hmd (lateL (4 * ss.length)) i0 hj hmem
      rw [h1] at this
      exact hst this
theorem low_bits {b : Int} (h0 : 0 ≤ b) (h1 : b < 65536) (h : ∀ q, q < 4 → has b ((q : Nat) : Int) = false) : IntKind.i64.wrap (BitVec.ofInt IntKind.i64.bits b &&& BitVec.ofInt IntKind.i64.bits 15).toNat = 0 := by
  obtain ⟨n, rfl⟩ := Int.eq_ofNat_of_zero_le h0
  have hm : n % 16 = 0 := by
    refine Nat.eq_of_testBit_eq fun i => ?_
    rw [show 16 = 2 ^ 4 from rfl, Nat.testBit_mod_two_pow, Nat.zero_testBit]
    by_cases hi : i < 4
    · have := h i hi
      unfold has at this
      rw [decide_eq_true (show (0 : Int) ≤ ((n : Nat) : Int) ∧ 0 ≤ ((i : Nat) : Int) ∧ ((i : Nat) : Int) ≤ 15 by omega), Bool.true_and, Int.toNat_natCast, Int.toNat_natCast] at this
      rw [this, Bool.and_false]
    · rw [decide_eq_false hi, Bool.false_and]
  have ha : n &&& 15 = 0 := by rw [show 15 = 2 ^ 4 - 1 from rfl, Nat.and_two_pow_sub_one_eq_mod]; exact hm
  have := Bm.and_nat n 15 (by omega) (by decide)
  rw [ha] at this
  exact this
end Tr
end Go.Proofs.YtgeakpeodhhffaaDoor
namespace Go.Proofs.YtgeakpeodhhffaaDoor
open Go.RowKit
set_option linter.unusedVariables false
set_option linter.unusedSimpArgs false
set_option maxRecDepth 100000
namespace Eng
open Tr
def c_Pages16 (bs : List Int) (k : GKernel) (ss : List GSpan) : CFD := ⟨7, [.one (ro 5 1 eU bs)], [], .tup [.agg [.hd 0, .hd 1, .hd 2, (CV.lit (.int .i64 (k.Calls))), .hd 3], .one (.hd 4)], [(0, some (.row 33 1 (k.Machine.Frames.Cells.map eIntS))), (1, some (.row 4 1 (k.Machine.Frames.Used.map Tr.eB))), (2, some (.row 51 2 (k.Machine.Table.Entries.map eEntry))), (3, some (.row 3 1 (k.Refuse.map Tr.eI))), (4, some (.row 49 3 (ss.map eSpan)))], [0, 1, 2, 3, 4], []⟩
theorem fn_Pages16 (bs : List Int) (r : DS) (hl : bs.length ≤ 2097152) (hb : ∀ x ∈ bs, 0 ≤ x ∧ x ≤ 255) (h : dCase bs (dNew bs) = r) : Fn Tryd.prog (c_Pages16 bs r.k r.ss) := by
  have hC := fn_Case16 bs (dNew bs) r (dNew_ok hl hb) h
  refine fn_intro tt_ok Tryd.func7 rfl Tryd.call7 Tryd.ntmps7 Tryd.results7 rfl rfl rfl rfl ?_
  intro X ρ0 hb_ hgl_
  dsimp only [c_Pages16]
  try refine nrm ?_
  repeat' (refine ar_id ?_; first | refine st1 ?_ | (refine ar_run (id := 1) [.call (c_NewC bs), .call (c_Case16 bs (dNew bs) r)] ?_; generalize hQ_ : kont _ _ _ _ = Q_; repeat' (first | (focus ((first | refine as_call3 tt_ok ?_ ?_ | refine as_sure3 tt_ok ?_ ?_ | refine as_cons3 tt_ok ?_ ?_); (try dsimp only [c_Case16, c_NewC]); (try refine nrm ?_); rotate_left)) | (subst hQ_; refine as_nil ?_))) | (first | ((first | refine ar_region tt_ok (inps := []) rfl ?_ ?_); rotate_left; (try dsimp only [c_Case16, c_NewC]); (try refine nrm ?_); rotate_right) | refine ret3 ?_ | refine end3 ?_) | (refine ar_cond rfl trivial ?_ ?_ <;> intro hc_ <;> (try simp only [isNilI, inB, reduceCtorEq, cds] at hc_) <;> (try (first | contradiction | (exfalso; omega)))) | refine ar_until (And.intro ?_ (wk3 ?_)))
  all_goals (first | refine ar_id ?_ | (try (focus ((try refine nrmO ?_); (repeat' (first | exact True.intro | refine And.intro ?_ ?_)); all_goals (try (intro (hg_ : _ = true); (try simp only [isNilI, inB, reduceCtorEq, cds] at hg_); (repeat' (first | exact True.intro | refine And.intro ?_ ?_)))); all_goals (first | exact ob1 | exact fn_NewC bs hl hb | exact hC | skip)))))
  all_goals trace_state
end Eng
end Go.Proofs.YtgeakpeodhhffaaDoor
namespace Go.Proofs.YtgeakpeodhhffaaDoor
open Go.RowKit
set_option linter.unusedVariables false
set_option linter.unusedSimpArgs false
set_option maxRecDepth 100000
namespace Eng
open Tr
def c_SetR (t : GTable) (page : Int) (md fr : Int) (r : GTable) (b : Bool) : CFD := ⟨10, [.agg [ro 51 2 eEntry t.Entries], (SV.one (.lit (.int .i64 (page)))), .agg [(CV.lit (.int .i64 (md))), (CV.lit (.int .i64 (fr)))]], [],
  .tup [.agg [.hd 0], (SV.one (.lit (.bool (b))))], [(0, some (.row 51 2 (r.Entries.map eEntry)))], [0], []⟩
theorem fn_SetR (t : GTable) (page md fr : Int) (r : GTable) (b : Bool) (hl : t.Entries.length ≤ 1048576) (h : pSetPage t page ⟨md, fr⟩ = (r, b)) : Fn Tryd.prog (c_SetR t page md fr r b) := by
  have h' := fn_SetPage t page ⟨md, fr⟩ hl
  unfold c_SetPage at h'
  rw [h] at h'
  exact h'
def c_PEr (t : GTable) (page : Int) (md fr : Int) : CFD := ⟨11, [.agg [ro 51 2 eEntry t.Entries], (SV.one (.lit (.int .i64 (page))))], [], .sv (.agg [(CV.lit (.int .i64 (md))), (CV.lit (.int .i64 (fr)))]), [], [], []⟩
theorem fn_PEr (t : GTable) (page : Int) (E : GEntry) (hl : t.Entries.length ≤ 1048576) (h : pPageEntry t page = E) : Fn Tryd.prog (c_PEr t page E.Mode E.Frame) := by
  have h' := fn_PageEntry t page hl
  unfold c_PageEntry at h'
  rw [h] at h'
  exact h'
def c_LLate (t : Tb) (bs : List Int) : CFD := ⟨3, [.one (ro 5 1 eU bs)], [], (TV.sv (.one (.lit (.bool (true))))), [], [], t.both⟩
set_option maxHeartbeats 16000000 in
theorem fn_LLate (t : Tb) (bs : List Int) (hb : ∀ x ∈ bs, 0 ≤ x ∧ x ≤ 255) : Fn Tryd.prog (c_LLate t bs) := by
  by_cases hl : (1048576 : Int) < (bs.length : Int)
  · have hd := decide_eq_true hl
    refine fn_intro tt_ok Tryd.func3 rfl Tryd.call3 Tryd.ntmps3 Tryd.results3 rfl rfl rfl rfl ?_
    intro X ρ0 hb_ hgl_
    dsimp only [c_LLate]
    try refine nrm ?_
    repeat' (refine ar_id ?_; first | refine st1 ?_ | (first | ((first | refine ar_region (id := 1) tt_ok (inps := [.call (c_big bs)]) rfl ?_ ?_ | refine ar_region tt_ok (inps := []) rfl ?_ ?_); rotate_left; (try dsimp only [c_big]); (try refine nrm ?_); rotate_right) | refine ret3 ?_ | refine end3 ?_) | (refine ar_cond rfl trivial ?_ ?_ <;> intro hc_ <;> (try simp only [isNilI, inB, reduceCtorEq, cds] at hc_) <;> (try (first | contradiction | (exfalso; omega)))) | refine ar_until (And.intro ?_ (wk3 ?_)))
    all_goals (first | refine ar_id ?_ | (try (focus ((try refine nrmO ?_); (repeat' (first | exact True.intro | refine And.intro ?_ ?_)); all_goals (try (intro (hg_ : _ = true); (try simp only [isNilI, inB, reduceCtorEq, cds] at hg_); (repeat' (first | exact True.intro | refine And.intro ?_ ?_)))); all_goals (first | exact ob1 | exact fn_big bs | skip)))))
  · have hl' : bs.length ≤ 2097152 := by omega
    obtain ⟨r, hr⟩ : ∃ r, dCase bs (dNew bs) = r := ⟨_, rfl⟩
    have hI := dCase_inv (dNew_ok hl' hb)
    have hD := fn_Pages16 bs r hl' hb hr
    rw [hr] at hI
    obtain ⟨hok, _, _, hsp, hn, hnone⟩ := hI
    obtain ⟨k, ss, cu⟩ := r
    dsimp only at hD hok hsp hn hnone
    clear hr hnone
    have hs := szK8_ok hok
    obtain ⟨r1, h1⟩ : ∃ r1, pLateApply k ss (lateL (4 * ss.length)) = r1 := ⟨_, rfl⟩
    obtain ⟨r2, h2⟩ : ∃ r2, pLateApply ⟨⟨r1.k.Machine.Frames, openT ss r1.k.Machine.Table ss.length⟩, r1.k.Calls, r1.k.Refuse⟩ r1.ss r1.w = r2 := ⟨_, rfl⟩
    obtain ⟨k1, n1, m1, k2, k3, n2, w2, e2⟩ := late_end hok (fun x hx => ⟨(hsp x hx).1, (hsp x hx).2.1⟩) h1 h2
    have hopen := open_inv k1.1 m1
    have hL1 := fn_LApI t k ss (lateL (4 * ss.length)) r1 hs (by omega) (by rw [lateL_len]; omega) h1
    have hw1 : r1.w.length ≤ 12 := by
      have := run_len ⟨k, ss, []⟩ (lateL (4 * ss.length))
      rw [show lateRun ⟨k, ss, []⟩ (lateL (4 * ss.length)) = r1 from h1, lateL_len] at this
      have h0 : ([] : List GLate).length = 0 := rfl
      change r1.w.length ≤ 0 + _ at this
      omega
    have hL2 := fn_LApI t _ r1.ss r1.w r2 (szK8_ok k2) (by omega) (by omega) h2
    have hAdd : ∀ i q, i < 3 → q < 4 → Fn Tryd.prog (c_LAddI (lateL (4 * i + q)) ⟨(i : Int), (q : Int)⟩ (lateL (4 * i + (q + 1))) true) := fun i q hi hq => fn_LAddI _ _ _ _ (by rw [lateL_len]; omega) (lateL_add hi hq)
    have hTw := fn_LAddI [⟨1, 0⟩] ⟨1, 0⟩ [⟨1, 0⟩] false (by decide) late_twice
    have hKo := fn_KOkI r2.k (szK_from16 (szK8_ok k3))
    have hpk : pKernelOk r2.k = true := decide_eq_true k3
    have hTS : ∀ i, openT ss r1.k.Machine.Table (i + 1) = (pSetPage (openT ss r1.k.Machine.Table i) (ss.getD i noSp).Page ⟨2, (pPageEntry (openT ss r1.k.Machine.Table i) (ss.getD i noSp).Page).Frame⟩).1 := fun _ => rfl
    have hT0 : openT ss r1.k.Machine.Table 0 = r1.k.Machine.Table := rfl
    have hTn : ∀ i, i ≤ ss.length → (openT ss r1.k.Machine.Table i).Entries.length ≤ 1048576 := fun i hi => by rw [(hopen i hi).n]; exact (szK8_ok k1).m.e
    generalize openT ss r1.k.Machine.Table = T at *
    clear h1 h2 hopen m1 hsp
    have hl0 : lateL 0 = [] := rfl
    have hll := lateL_len (4 * ss.length)
    refine fn_intro tt_ok Tryd.func3 rfl Tryd.call3 Tryd.ntmps3 Tryd.results3 rfl rfl rfl rfl ?_
    intro X ρ0 hb_ hgl_
    dsimp only [c_LLate]
    try refine nrm ?_
    repeat' (refine ar_id ?_; first | refine st1 ?_ | (first | ((first | refine ar_region (id := 1) tt_ok (inps := [.call (c_big bs)]) rfl ?_ ?_ | refine ar_region (id := 3) tt_ok (inps := [.call (c_Pages16 bs k ss)]) rfl ?_ ?_ | refine ar_region tt_ok (inps := []) rfl ?_ ?_); rotate_left; (try dsimp only [c_Pages16, c_big]); (try refine nrm ?_); rotate_right) | refine ret3 ?_ | refine end3 ?_) | (refine ar_cond rfl trivial ?_ ?_ <;> intro hc_ <;> (try simp only [isNilI, inB, reduceCtorEq, cds] at hc_) <;> (try (first | contradiction | (exfalso; omega) | (exfalso; grind)))) | refine ar_until (And.intro ?_ (wk3 ?_)))
    all_goals (first | refine ar_id ?_ | (try (focus ((try refine nrmO ?_); (repeat' (first | exact True.intro | refine And.intro ?_ ?_)); all_goals (try (intro (hg_ : _ = true); (try simp only [isNilI, inB, reduceCtorEq, cds] at hg_); (repeat' (first | exact True.intro | refine And.intro ?_ ?_)))); all_goals (first | exact ob1 | exact fn_big bs | exact hD | exact hgl_.1 | exact hgl_.2.1 | exact hgl_.2.2.1 | exact hgl_.2.2.2.1 | exact hgl_.2.2.2.2.1 | exact hgl_.2.2.2.2.2.1 | exact hgl_.2.2.2.2.2.2.1 | exact hgl_.2.2.2.2.2.2.2.1 | exact hgl_ | exact rfl | exact one1 rfl | skip)))))
    dsimp only [zKer16d]
    refine ar_keep 65277 (by dsimp only [keepS] <;> exact rfl) ?_
    refine ar_forM (ss.length) (fun i => True) (fun i => [(6, (TV.sv (.one (.lit (.int .i64 (i)))))), (5, (TV.sv (.one (.hd 23))))]) (fun i => [(23, some (.row 43 2 ((lateL (4 * i)).map eLate)))]) ?_ ?_ ?_
    rotate_left
    · first | trivial | simp
    (dsimp only [rnCap, capSVs, Int.toNat_natCast, ro, Nat.reduceAdd, Nat.reduceMul, Nat.zero_add, List.map, putT, app, wrapG, gOb, argT, keys, slotOf, dropped, gAnd, wB, rnT, rnS, rnC, rnCs, rnSs, rnM, rnB, rnN, rn, lk, St.over, ded, delL, keepT, menT, menSs, menS, menCs, menC, hasN, resT, SV.cells]; refine wk3 ?_; (focus ((try refine nrmO ?_); (repeat' (first | exact True.intro | refine And.intro ?_ ?_)); all_goals (try (intro (hg_ : _ = true); (try simp only [isNilI, inB, reduceCtorEq, cds] at hg_); (repeat' (first | exact True.intro | refine And.intro ?_ ?_)))); all_goals (first | exact ob1 | exact rfl | skip))))
    rotate_right
    intro i hi_ hiI_
    dsimp only [rnCap, capSVs, Int.toNat_natCast, ro, Nat.reduceAdd, Nat.reduceMul, Nat.zero_add, List.map, putT, app, wrapG, gOb, argT, keys, slotOf, dropped, gAnd, wB, rnT, rnS, rnC, rnCs, rnSs, rnM, rnB, rnN, rn, lk, St.over, ded, delL, keepT, menT, menSs, menS, menCs, menC, hasN, resT, SV.cells]
    by_cases hil : i < ss.length
    · skip
      repeat' (refine ar_id ?_; first | refine st1 ?_ | (first | ((first | refine ar_region tt_ok (inps := []) rfl ?_ ?_); rotate_left; (try refine nrm ?_); rotate_right) | refine ret3 ?_ | refine end3 ?_) | (refine ar_cond rfl trivial ?_ ?_ <;> intro hc_ <;> (try simp only [isNilI, inB, reduceCtorEq, cds] at hc_) <;> (try (first | contradiction | (exfalso; omega) | (exfalso; omega)))) | refine ar_until (And.intro ?_ (wk3 ?_)))
      all_goals (first | refine ar_id ?_ | (try (focus ((try refine nrmO ?_); (repeat' (first | exact True.intro | refine And.intro ?_ ?_)); all_goals (try (intro (hg_ : _ = true); (try simp only [isNilI, inB, reduceCtorEq, cds] at hg_); (repeat' (first | exact True.intro | refine And.intro ?_ ?_)))); all_goals (first | exact ob1 | skip)))))
      refine ar_keep 65277 (by dsimp only [keepS] <;> exact rfl) ?_
      refine ar_forM (4) (fun q => True) (fun q => [(7, (TV.sv (.one (.lit (.int .i64 (q)))))), (5, (TV.sv (.one (.hd 23))))]) (fun q => [(23, some (.row 43 2 ((lateL (4 * i + q)).map eLate)))]) ?_ ?_ ?_
      rotate_left
      · first | trivial | simp
      (dsimp only [rnCap, capSVs, Int.toNat_natCast, ro, Nat.reduceAdd, Nat.reduceMul, Nat.zero_add, List.map, putT, app, wrapG, gOb, argT, keys, slotOf, dropped, gAnd, wB, rnT, rnS, rnC, rnCs, rnSs, rnM, rnB, rnN, rn, lk, St.over, ded, delL, keepT, menT, menSs, menS, menCs, menC, hasN, resT, SV.cells]; refine wk3 ?_; (focus ((try refine nrmO ?_); (repeat' (first | exact True.intro | refine And.intro ?_ ?_)); all_goals (try (intro (hg_ : _ = true); (try simp only [isNilI, inB, reduceCtorEq, cds] at hg_); (repeat' (first | exact True.intro | refine And.intro ?_ ?_)))); all_goals (first | exact ob1 | exact rfl | skip))))
      rotate_right
      intro q hq_ hqI_
      dsimp only [rnCap, capSVs, Int.toNat_natCast, ro, Nat.reduceAdd, Nat.reduceMul, Nat.zero_add, List.map, putT, app, wrapG, gOb, argT, keys, slotOf, dropped, gAnd, wB, rnT, rnS, rnC, rnCs, rnSs, rnM, rnB, rnN, rn, lk, St.over, ded, delL, keepT, menT, menSs, menS, menCs, menC, hasN, resT, SV.cells]
      by_cases hq4 : q < 4
      · have hA := hAdd i q (by omega) hq4
        repeat' (refine ar_id ?_; first | refine st1 ?_ | (first | ((first | refine ar_region (id := 11) tt_ok (inps := [.call (c_LAddI (lateL (4 * i + q)) ⟨(i : Int), (q : Int)⟩ (lateL (4 * i + (q + 1))) true)]) rfl ?_ ?_ | refine ar_region tt_ok (inps := []) rfl ?_ ?_); rotate_left; (try dsimp only [c_LAddI]); (try refine nrm ?_); rotate_right) | refine ret3 ?_ | refine end3 ?_) | (refine ar_cond rfl trivial ?_ ?_ <;> intro hc_ <;> (try simp only [isNilI, inB, reduceCtorEq, cds] at hc_) <;> (try (first | contradiction | (exfalso; omega) | (exfalso; omega)))) | refine ar_until (And.intro ?_ (wk3 ?_)))
        all_goals (first | refine ar_id ?_ | (try (focus ((try refine nrmO ?_); (repeat' (first | exact True.intro | refine And.intro ?_ ?_)); all_goals (try (intro (hg_ : _ = true); (try simp only [isNilI, inB, reduceCtorEq, cds] at hg_); (repeat' (first | exact True.intro | refine And.intro ?_ ?_)))); all_goals (first | exact ob1 | exact hA | exact hgl_.1 | exact hgl_.2.1 | exact hgl_.2.2.1 | exact hgl_.2.2.2.1 | exact hgl_.2.2.2.2.1 | exact hgl_.2.2.2.2.2.1 | exact hgl_.2.2.2.2.2.2.1 | exact hgl_.2.2.2.2.2.2.2.1 | exact hgl_ | exact rfl | exact one1 rfl | skip)))))
        all_goals trace_state
      · have hqe : q = 4 := by omega
        subst hqe
        repeat' (refine ar_id ?_; first | refine st1 ?_ | (first | ((first | refine ar_region tt_ok (inps := []) rfl ?_ ?_); rotate_left; (try refine nrm ?_); rotate_right) | refine ret3 ?_ | refine end3 ?_) | (refine ar_cond rfl trivial ?_ ?_ <;> intro hc_ <;> (try simp only [isNilI, inB, reduceCtorEq, cds] at hc_) <;> (try (first | contradiction | (exfalso; omega) | (exfalso; omega)))) | refine ar_until (And.intro ?_ (wk3 ?_)))
        all_goals (first | refine ar_id ?_ | (try (focus ((try refine nrmO ?_); (repeat' (first | exact True.intro | refine And.intro ?_ ?_)); all_goals (try (intro (hg_ : _ = true); (try simp only [isNilI, inB, reduceCtorEq, cds] at hg_); (repeat' (first | exact True.intro | refine And.intro ?_ ?_)))); all_goals (first | exact ob1 | skip)))))
        all_goals first | (rw [show 4 * (i + 1) = 4 * i + 4 by omega]; done) | trace_state
      all_goals trace_state
    · have hie : i = ss.length := by omega
      subst hie
      repeat' (refine ar_id ?_; first | refine st1 ?_ | (first | ((first | refine ar_region (id := 12) tt_ok (inps := [.call (c_LAddI [⟨1,0⟩] ⟨1,0⟩ [⟨1,0⟩] false)]) rfl ?_ ?_ | refine ar_region (id := 13) tt_ok (inps := [.call (c_LApI t k ss (lateL (4 * ss.length)) r1)]) rfl ?_ ?_ | refine ar_region tt_ok (inps := []) rfl ?_ ?_); rotate_left; (try dsimp only [c_LAddI, c_LApI]); (try refine nrm ?_); rotate_right) | refine ret3 ?_ | refine end3 ?_) | (refine ar_cond rfl trivial ?_ ?_ <;> intro hc_ <;> (try simp only [isNilI, inB, reduceCtorEq, cds] at hc_) <;> (try (first | contradiction | (exfalso; omega) | (exfalso; omega)))) | refine ar_until (And.intro ?_ (wk3 ?_)))
      all_goals (first | refine ar_id ?_ | (try (focus ((try refine nrmO ?_); (repeat' (first | exact True.intro | refine And.intro ?_ ?_)); all_goals (try (intro (hg_ : _ = true); (try simp only [isNilI, inB, reduceCtorEq, cds] at hg_); (repeat' (first | exact True.intro | refine And.intro ?_ ?_)))); all_goals (first | exact ob1 | exact hTw | exact hL1 | exact hgl_.1 | exact hgl_.2.1 | exact hgl_.2.2.1 | exact hgl_.2.2.2.1 | exact hgl_.2.2.2.2.1 | exact hgl_.2.2.2.2.2.1 | exact hgl_.2.2.2.2.2.2.1 | exact hgl_.2.2.2.2.2.2.2.1 | exact hgl_ | exact rfl | exact one1 rfl | skip)))))
      dsimp only [zKer16d]
      refine ar_blocks [10, 54000, 54001, 54002, 54003, 54004, 54005, 23, 21004] (by dsimp only [selB, hasN] <;> exact rfl) ?_
      refine ar_keep 65277 (by dsimp only [keepS] <;> exact rfl) ?_
      refine ar_forM (ss.length) (fun j => True) (fun j => [(13, (TV.sv (.one (.lit (.int .i64 (j))))))]) (fun j => [(10, some (.box 35 [.hd 54000, .hd 54001, .hd 54002, (CV.lit (.int .i64 ((⟨⟨r1.k.Machine.Frames, T j⟩, r1.k.Calls, r1.k.Refuse⟩ : GKernel).Calls))), .hd 54003])), (54000, some (.row 33 1 ((⟨⟨r1.k.Machine.Frames, T j⟩, r1.k.Calls, r1.k.Refuse⟩ : GKernel).Machine.Frames.Cells.map eIntS))), (54001, some (.row 4 1 ((⟨⟨r1.k.Machine.Frames, T j⟩, r1.k.Calls, r1.k.Refuse⟩ : GKernel).Machine.Frames.Used.map Tr.eB))), (54002, some (.row 51 2 ((⟨⟨r1.k.Machine.Frames, T j⟩, r1.k.Calls, r1.k.Refuse⟩ : GKernel).Machine.Table.Entries.map eEntry))), (54003, some (.row 3 1 ((⟨⟨r1.k.Machine.Frames, T j⟩, r1.k.Calls, r1.k.Refuse⟩ : GKernel).Refuse.map Tr.eI)))]) ?_ ?_ ?_
      rotate_left
      · first | trivial | simp
      (dsimp only [rnCap, capSVs, Int.toNat_natCast, ro, Nat.reduceAdd, Nat.reduceMul, Nat.zero_add, List.map, putT, app, wrapG, gOb, argT, keys, slotOf, dropped, gAnd, wB, rnT, rnS, rnC, rnCs, rnSs, rnM, rnB, rnN, rn, lk, St.over, ded, delL, keepT, menT, menSs, menS, menCs, menC, hasN, resT, SV.cells]; refine wk3 ?_; (focus ((try refine nrmO ?_); (repeat' (first | exact True.intro | refine And.intro ?_ ?_)); all_goals (try (intro (hg_ : _ = true); (try simp only [isNilI, inB, reduceCtorEq, cds] at hg_); (repeat' (first | exact True.intro | refine And.intro ?_ ?_)))); all_goals (first | exact ob1 | exact rfl | skip))))
      rotate_right
      intro j hj_ hjI_
      dsimp only [rnCap, capSVs, Int.toNat_natCast, ro, Nat.reduceAdd, Nat.reduceMul, Nat.zero_add, List.map, putT, app, wrapG, gOb, argT, keys, slotOf, dropped, gAnd, wB, rnT, rnS, rnC, rnCs, rnSs, rnM, rnB, rnN, rn, lk, St.over, ded, delL, keepT, menT, menSs, menS, menCs, menC, hasN, resT, SV.cells]
      by_cases hjl : j < ss.length
      · have htj := hTn j (by omega)
        have hs1 := hTS j
        obtain ⟨E, hE⟩ : ∃ E, pPageEntry (T j) (ss.getD j noSp).Page = E := ⟨_, rfl⟩
        rw [hE] at hs1
        have hPE : Fn Tryd.prog (c_PEr (T j) (ss.getD j noSp).Page E.Mode E.Frame) := fn_PEr _ _ _ htj hE
        have hSR : Fn Tryd.prog (c_SetR (T j) (ss.getD j noSp).Page 2 E.Frame (T (j + 1)) (pSetPage (T j) (ss.getD j noSp).Page ⟨2, E.Frame⟩).2) := fn_SetR _ _ _ _ _ _ htj (by rw [hs1])
        have hes : (ss.map eSpan)[j]? = some (eSpan (ss.getD j noSp)) := map_at hjl
        generalize (pSetPage (T j) (ss.getD j noSp).Page ⟨2, E.Frame⟩).2 = bb at hSR
        generalize (ss.getD j noSp) = sj at *
        repeat' (refine ar_id ?_; first | refine st1 ?_ | (refine ar_drawS (id := 17) tt_ok (by kernel_rfl) [.elem (eSpan sj), .elem (eSpan sj), .call (c_PEr (T j) sj.Page E.Mode E.Frame), .call (c_SetR (T j) sj.Page 2 E.Frame (T (j + 1)) bb)] ?_; refine ed_hide ?_; intro K_ hK_; repeat' (first | ((first | refine ed_call3 ?_ | refine ed_sure3 ?_ | refine ed_cons3 ?_); refine ed_hide ?_; intro K_ hK_; (try dsimp only [c_PEr, c_SetR]); (try refine nrmE ?_)) | (refine ed_nil ?_; (repeat subst hK_); dsimp only; refine Exists.intro _ (And.intro rfl (And.intro (by kernel_rfl) (And.intro ?_ ?_))); rotate_left; (try dsimp only [c_PEr, c_SetR]); (try refine nrm ?_); rotate_right))) | (first | ((first | refine ar_region tt_ok (inps := []) rfl ?_ ?_); rotate_left; (try dsimp only [c_PEr, c_SetR]); (try refine nrm ?_); rotate_right) | refine ret3 ?_ | refine end3 ?_) | (refine ar_cond rfl trivial ?_ ?_ <;> intro hc_ <;> (try simp only [isNilI, inB, reduceCtorEq, cds] at hc_) <;> (try (first | contradiction | (exfalso; omega) | (exfalso; omega)))) | refine ar_until (And.intro ?_ (wk3 ?_)))
        all_goals (first | refine ar_id ?_ | (try (focus ((try refine nrmO ?_); (repeat' (first | exact True.intro | refine And.intro ?_ ?_)); all_goals (try (intro (hg_ : _ = true); (try simp only [isNilI, inB, reduceCtorEq, cds] at hg_); (repeat' (first | exact True.intro | refine And.intro ?_ ?_)))); all_goals (first | exact ob1 | exact hes | exact hPE | exact hSR | exact hgl_.1 | exact hgl_.2.1 | exact hgl_.2.2.1 | exact hgl_.2.2.2.1 | exact hgl_.2.2.2.2.1 | exact hgl_.2.2.2.2.2.1 | exact hgl_.2.2.2.2.2.2.1 | exact hgl_.2.2.2.2.2.2.2.1 | exact hgl_ | exact rfl | exact one1 rfl | skip)))))
        all_goals trace_state
      · have hje : j = ss.length := by omega
        subst hje
        have hi4 : inK .i64 (4 * ((ss.map eSpan).length : Int)) := i64_ok (by rw [List.length_map]; omega) (by rw [List.length_map]; omega)
        have hw0 : (r2.w.length : Int) = 0 := by rw [w2]; rfl
        repeat' (refine ar_id ?_; first | refine st1 ?_ | (first | ((first | refine ar_region (id := 18) tt_ok (inps := [.call (c_LApI t ⟨⟨r1.k.Machine.Frames, T ss.length⟩, r1.k.Calls, r1.k.Refuse⟩ r1.ss r1.w r2)]) rfl ?_ ?_ | refine ar_region tt_ok (inps := []) rfl ?_ ?_); rotate_left; (try dsimp only [c_LApI]); (try refine nrm ?_); rotate_right) | refine ret3 ?_ | refine end3 ?_) | (refine ar_cond rfl trivial ?_ ?_ <;> intro hc_ <;> (try simp only [isNilI, inB, reduceCtorEq, cds] at hc_) <;> (try (first | contradiction | (exfalso; omega) | (exfalso; omega)))) | refine ar_until (And.intro ?_ (wk3 ?_)))
        all_goals (first | refine ar_id ?_ | (try (focus ((try refine nrmO ?_); (repeat' (first | exact True.intro | refine And.intro ?_ ?_)); all_goals (try (intro (hg_ : _ = true); (try simp only [isNilI, inB, reduceCtorEq, cds] at hg_); (repeat' (first | exact True.intro | refine And.intro ?_ ?_)))); all_goals (first | exact ob1 | exact hL2 | exact hi4 | exact hgl_.1 | exact hgl_.2.1 | exact hgl_.2.2.1 | exact hgl_.2.2.2.1 | exact hgl_.2.2.2.2.1 | exact hgl_.2.2.2.2.2.1 | exact hgl_.2.2.2.2.2.2.1 | exact hgl_.2.2.2.2.2.2.2.1 | exact hgl_ | exact rfl | exact one1 rfl | skip)))))
        refine ar_blocks [10, 93000, 93001, 93002, 93003, 93004, 93005] (by dsimp only [selB, hasN] <;> exact rfl) ?_
        refine ar_keep 65277 (by dsimp only [keepS] <;> exact rfl) ?_
        refine ar_forM (r2.ss.length) (fun n => True) (fun n => [(15, (TV.sv (.one (.lit (.int .i64 (n))))))]) (fun n => []) ?_ ?_ ?_
        rotate_left
        · first | trivial | simp
        (dsimp only [rnCap, capSVs, Int.toNat_natCast, ro, Nat.reduceAdd, Nat.reduceMul, Nat.zero_add, List.map, putT, app, wrapG, gOb, argT, keys, slotOf, dropped, gAnd, wB, rnT, rnS, rnC, rnCs, rnSs, rnM, rnB, rnN, rn, lk, St.over, ded, delL, keepT, menT, menSs, menS, menCs, menC, hasN, resT, SV.cells]; refine wk3 ?_; (focus ((try refine nrmO ?_); (repeat' (first | exact True.intro | refine And.intro ?_ ?_)); all_goals (try (intro (hg_ : _ = true); (try simp only [isNilI, inB, reduceCtorEq, cds] at hg_); (repeat' (first | exact True.intro | refine And.intro ?_ ?_)))); all_goals (first | exact ob1 | exact rfl | skip))))
        rotate_right
        intro n hn_ hnI_
        dsimp only [rnCap, capSVs, Int.toNat_natCast, ro, Nat.reduceAdd, Nat.reduceMul, Nat.zero_add, List.map, putT, app, wrapG, gOb, argT, keys, slotOf, dropped, gAnd, wB, rnT, rnS, rnC, rnCs, rnSs, rnM, rnB, rnN, rn, lk, St.over, ded, delL, keepT, menT, menSs, menS, menCs, menC, hasN, resT, SV.cells]
        by_cases hnl : n < r2.ss.length
        · have hes : (r2.ss.map eSpan)[n]? = some (eSpan (r2.ss.getD n noSp)) := map_at hnl
          obtain ⟨b0, b1, b2⟩ := e2 n (by omega)
          have hlow := low_bits b0 b1 b2
          repeat' (refine ar_id ?_; first | refine st1 ?_ | (first | ((first | refine ar_region (id := 24) tt_ok (inps := [.elem (eSpan (r2.ss.getD n noSp))]) rfl ?_ ?_ | refine ar_region tt_ok (inps := []) rfl ?_ ?_); rotate_left; (try refine nrm ?_); rotate_right) | refine ret3 ?_ | refine end3 ?_) | (refine ar_cond rfl trivial ?_ ?_ <;> intro hc_ <;> (try simp only [isNilI, inB, reduceCtorEq, cds] at hc_) <;> (try (first | contradiction | (exfalso; omega) | (exfalso; first | omega | (exact hc_ hlow))))) | refine ar_until (And.intro ?_ (wk3 ?_)))
          all_goals (first | refine ar_id ?_ | (try (focus ((try refine nrmO ?_); (repeat' (first | exact True.intro | refine And.intro ?_ ?_)); all_goals (try (intro (hg_ : _ = true); (try simp only [isNilI, inB, reduceCtorEq, cds] at hg_); (repeat' (first | exact True.intro | refine And.intro ?_ ?_)))); all_goals (first | exact ob1 | exact hes | exact hgl_.1 | exact hgl_.2.1 | exact hgl_.2.2.1 | exact hgl_.2.2.2.1 | exact hgl_.2.2.2.2.1 | exact hgl_.2.2.2.2.2.1 | exact hgl_.2.2.2.2.2.2.1 | exact hgl_.2.2.2.2.2.2.2.1 | exact hgl_ | exact rfl | exact one1 rfl | skip)))))
          all_goals trace_state
        · skip
          repeat' (refine ar_id ?_; first | refine st1 ?_ | (first | ((first | refine ar_region (id := 26) tt_ok (inps := [.call (c_KOkI r2.k)]) rfl ?_ ?_ | refine ar_region tt_ok (inps := []) rfl ?_ ?_); rotate_left; (try dsimp only [c_KOkI]); (try refine nrm ?_); rotate_right) | refine ret3 ?_ | refine end3 ?_) | (refine ar_cond rfl trivial ?_ ?_ <;> intro hc_ <;> (try simp only [isNilI, inB, reduceCtorEq, cds] at hc_) <;> (try (first | contradiction | (exfalso; omega) | (exfalso; omega)))) | refine ar_until (And.intro ?_ (wk3 ?_)))
          all_goals (first | refine ar_id ?_ | (try (focus ((try refine nrmO ?_); (repeat' (first | exact True.intro | refine And.intro ?_ ?_)); all_goals (try (intro (hg_ : _ = true); (try simp only [isNilI, inB, reduceCtorEq, cds] at hg_); (repeat' (first | exact True.intro | refine And.intro ?_ ?_)))); all_goals (first | exact ob1 | exact hKo | exact hgl_.1 | exact hgl_.2.1 | exact hgl_.2.2.1 | exact hgl_.2.2.2.1 | exact hgl_.2.2.2.2.1 | exact hgl_.2.2.2.2.2.1 | exact hgl_.2.2.2.2.2.2.1 | exact hgl_.2.2.2.2.2.2.2.1 | exact hgl_ | exact rfl | exact one1 rfl | skip)))))
          all_goals first | (rw [hpk, List.length_map, w2] <;> rfl) | trace_state
      all_goals first | (rw [hT0] <;> rfl) | trace_state
    all_goals first | (rw [hl0] <;> rfl) | trace_state
end Eng
end Go.Proofs.YtgeakpeodhhffaaDoor
namespace Go.Proofs.YtgeakpeodhhffaaDoor
open Go.RowKit Go.ChangeShapes
namespace LaidS
/-- a list that opens with sentinels: their pointers, all different, and the blocks that hold them -/
theorem vars {P : Program} {nm : String} {W : World} {ti tp te ts : TypeId} {ms : Array (String × TypeId)} {f : Field}
    (hi : P.underlying ti = some (.interface ms)) (hrow : ∀ u, P.typeName? 3 u = some nm → u = tp)
    (hp : P.underlying tp = some (.pointer te)) (he : P.underlying te = some (.struct #[f])) (hft : f.type = ts) (hfo : f.offset = 0) (hs : P.underlying ts = some .string) (hc : P.cellsOf te = 1) (hcs : P.cellsOf ts = 1) :
    ∀ (L : List (String × List UInt8 × Nat)) (r : List (String × DataW Unit)) (ps : List MemPlace), DataW.LaidVars P W (L.map (fun x => (x.1, .iface nm (.ptr (.agg [.lit (.string x.2.1)])))) ++ r) ps → ps.Nodup →
      (∀ b off, MemPlace.cell b off ∈ ps → (∃ c t, W.heap[b]? = some (.cells c t (0, 0))) ∧ ∀ u v, W.cell? ⟨b, off, none⟩ = some (.iface u v) → Value.okWide P W .any 0 u v) →
      (∀ x ∈ L, P.globalNamed x.1 = some x.2.2 ∧ (P.globals[x.2.2]?).map (·.type) = some ti) →
      ∃ as0 : List Addr, as0.length = L.length ∧ as0.Nodup ∧ (∀ a ∈ as0, MemPlace.cell a.block a.off ∈ ps) ∧
        ∀ (i : Nat) x a, L[i]? = some x → as0[i]? = some a → (∃ ty, W.heap[x.2.2]? = some (.cells #[.iface tp (.pointer (some a))] ty (0, 0))) ∧ ∃ c t, W.heap[a.block]? = some (.cells c t (0, 0))
  | [], _, _, _, _, _, _ => ⟨[], rfl, List.nodup_nil, fun _ h => (by cases h), fun i x a h => by simp at h⟩
  | (n, text, g) :: L, r, ps, hv, hnd, hrows, hg => by
    obtain ⟨g0, t0, cs0, f0, p0, q0, hg0, ht0, hv0, hd0, hq0, e0⟩ := hv
    obtain ⟨hg1, ht1⟩ := hg (n, text, g) (by simp)
    obtain rfl := Option.some.inj (hg1.symm.trans hg0)
    obtain rfl := Option.some.inj (ht1.symm.trans ht0)
    subst e0
    obtain ⟨l0⟩ := cs0
    have ok0 : ∀ u v, l0 = [.iface u v] → Value.okWide P W .any 0 u v := fun u v e => by
      subst e
      exact (hrows g 0 (by simp [MemPlace.row])).2 u v (by simpa using World.var?_cell hg0 hv0 0)
    obtain ⟨a0, s0, rfl, hc0, _, _, rfl⟩ := errorString_of_trod hi hrow hp he hft hfo hs hc hcs hd0 ok0
    have hr0 : MemPlace.row a0 1 = [MemPlace.cell a0.block a0.off] := by simp [MemPlace.row]
    rw [hr0] at hnd hrows
    rw [List.nodup_append] at hnd
    obtain ⟨_, hnd2, hnd3⟩ := hnd
    obtain ⟨as0, h1, h2, h3, h4⟩ := vars hi hrow hp he hft hfo hs hc hcs L r q0 hq0 hnd2 (fun b off hm => hrows b off (List.mem_append_right _ hm)) (fun x hx => hg x (by simp [hx]))
    refine ⟨a0 :: as0, by simp [h1], ?_, ?_, ?_⟩
    · rw [List.nodup_cons]
      exact ⟨fun hm => hnd3 _ (by simp) _ (h3 a0 hm) rfl, h2⟩
    · intro a ha
      rw [List.mem_cons] at ha
      rcases ha with rfl | ha
      · rw [hr0]; simp
      · exact List.mem_append_right _ (h3 a ha)
    · intro i x a hx ha
      cases i with
      | zero =>
        simp at hx ha
        subst hx ha
        refine ⟨?_, (hrows a0.block a0.off (by simp)).1⟩
        obtain ⟨c, t, hb⟩ := (hrows g 0 (by simp [MemPlace.row])).1
        have : c = #[.iface tp (.pointer (some a0))] := by
          have hv1 := hv0
          unfold World.var? at hv1
          rw [hg0, Option.bind_some, hb] at hv1
          exact Option.some.inj hv1
        exact ⟨t, this ▸ hb⟩
      | succ i => exact h4 i x a (by simpa using hx) (by simpa using ha)
/-- the sentinels that the variables' blocks gs hold -/
def At (tp : TypeId) (gs : List Nat) (w : World) : Prop :=
  ∃ as0 : List Addr, as0.length = gs.length ∧ as0.Nodup ∧ ∀ (i : Nat) g a, gs[i]? = some g → as0[i]? = some a → (∃ ty, w.heap[g]? = some (.cells #[.iface tp (.pointer (some a))] ty (0, 0))) ∧ ∃ c t, w.heap[a.block]? = some (.cells c t (0, 0))
theorem At.head {tp : TypeId} {g : Nat} {gs : List Nat} {w : World} (h : At tp (g :: gs) w) : At tp [g] w := by
  obtain ⟨as0, h1, h2, h3⟩ := h
  match as0, h1 with
  | a :: as0, _ =>
    refine ⟨[a], rfl, by simp, fun i g' a' hg ha => ?_⟩
    cases i with
    | zero => exact h3 0 g' a' (by simpa using hg) (by simpa using ha)
    | succ i => simp at hg
end LaidS
end Go.Proofs.YtgeakpeodhhffaaDoor
namespace Go.Proofs.YtgeakpeodhhffaaDoor
open Go.RowKit
namespace Laid
def put (h : Array Obj) (g : Nat) (cs : Array Value) : Array Obj := h.modify g fun
  | .cells _ t frozen => .cells cs t frozen
  | o => o
noncomputable def world (os : Os) : World :=
  let w0 := World.holding Tryd.prog os ⟨#[.cells #[.string ⟨#[110, 111, 32, 112, 97, 103, 101, 32, 105, 115, 32, 109, 97, 112, 112, 101, 100, 32, 97, 116, 32, 116, 104, 101, 32, 97, 100, 100, 114, 101, 115, 115]⟩] 215, .cells #[.string ⟨#[116, 104, 101, 32, 112, 97, 103, 101, 32, 105, 115, 32, 109, 97, 112, 112, 101, 100, 32, 102, 111, 114, 32, 114, 101, 97, 100, 105, 110, 103, 32, 111, 110, 108, 121]⟩] 215, .cells #[.string ⟨#[116, 104, 101, 32, 118, 97, 108, 117, 101, 32, 105, 115, 32, 111, 117, 116, 32, 111, 102, 32, 114, 97, 110, 103, 101]⟩] 215], #[], []⟩
  let h0 := put w0.heap 4 #[.int .i64 1, .int .i64 2, .int .i64 4, .int .i64 8, .int .i64 16, .int .i64 32, .int .i64 64, .int .i64 128, .int .i64 256, .int .i64 512, .int .i64 1024, .int .i64 2048, .int .i64 4096, .int .i64 8192, .int .i64 16384, .int .i64 32768]
  let h1 := put h0 0 #[.int .i64 1, .int .i64 2, .int .i64 4, .int .i64 8]
  let h2 := put h1 1 #[.iface 188 (.pointer (some ⟨(World.settled Tryd.prog os).heap.size + 0, 0, none⟩))]
  let h3 := put h2 2 #[.iface 188 (.pointer (some ⟨(World.settled Tryd.prog os).heap.size + 1, 0, none⟩))]
  let h4 := put h3 3 #[.iface 188 (.pointer (some ⟨(World.settled Tryd.prog os).heap.size + 2, 0, none⟩))]
  { w0 with heap := h4 }
theorem laidOut : laidOutB Tryd.prog = true := by kernel_rfl
theorem vars_len {H : Type} {enc : TypeId × Value → H} {P : Program} {w : World} {sp : Nat → Bool} : ∀ {ns : List String} {gs : List (DataW H)} {ps : List MemPlace}, DataW.TrodVars enc P w sp ns gs ps → gs.length = ns.length
  | [], [], _, _ => rfl
  | [], _ :: _, _, h => h.elim
  | _ :: _, [], _, h => h.elim
  | _ :: _, _ :: _, _, h => by obtain ⟨_, _, _, _, _, _, _, _, _, _, h2, _⟩ := h; exact congrArg Nat.succ (vars_len h2)
theorem vars2 {H : Type} {enc : TypeId × Value → H} {P : Program} {w : World} {sp : Nat → Bool} {a b : String} {gs : List (DataW H)} {ps : List MemPlace} (h : DataW.TrodVars enc P w sp [a, b] gs ps) : ∃ x y, gs = [x, y] := by
  have e := vars_len h
  match gs, e with
  | [x, y], _ => exact ⟨x, y, rfl⟩
def tab_slotMasks : List Int := [1, 2, 4, 8, 16, 32, 64, 128, 256, 512, 1024, 2048, 4096, 8192, 16384, 32768]
theorem g_slotMasks : Tryd.prog.globalNamed "loop.example/g00978/impl.slotMasks" = some 4 := by kernel_rfl
theorem ty_slotMasks : (Tryd.prog.globals[4]?).map (·.type) = some 170 := by kernel_rfl
theorem arr_slotMasks : Tryd.prog.cellsOf 170 = 16 := by kernel_rfl
theorem el_slotMasks : Tryd.prog.cellsOf 3 = 1 := by kernel_rfl
theorem list_slotMasks {H : Type} : (Rows.laid_loop_example_g00978_impl_slotMasks : DataW H) = Lib.tabData .i64 tab_slotMasks := by kernel_rfl
def tab_classSizes : List Int := [1, 2, 4, 8]
theorem g_classSizes : Tryd.prog.globalNamed "loop.example/g00978/impl.classSizes" = some 0 := by kernel_rfl
theorem ty_classSizes : (Tryd.prog.globals[0]?).map (·.type) = some 139 := by kernel_rfl
theorem arr_classSizes : Tryd.prog.cellsOf 139 = 4 := by kernel_rfl
theorem el_classSizes : Tryd.prog.cellsOf 3 = 1 := by kernel_rfl
theorem list_classSizes {H : Type} : (Rows.laid_loop_example_g00978_impl_classSizes : DataW H) = Lib.tabData .i64 tab_classSizes := by kernel_rfl
structure LSlotMasksClassSizes (w : World) : Prop where
  slotMasks : Lib.TabIs Tryd.prog w "loop.example/g00978/impl.slotMasks" .i64 tab_slotMasks
  classSizes : Lib.TabIs Tryd.prog w "loop.example/g00978/impl.classSizes" .i64 tab_classSizes
theorem has_0 {W : World} (h : laidMetH Tryd.prog [("loop.example/g00978/impl.slotMasks", Rows.laid_loop_example_g00978_impl_slotMasks), ("loop.example/g00978/impl.classSizes", Rows.laid_loop_example_g00978_impl_classSizes)] W) : LSlotMasksClassSizes W := by
  have h' : laidMet Tryd.prog [("loop.example/g00978/impl.slotMasks", Rows.laid_loop_example_g00978_impl_slotMasks), ("loop.example/g00978/impl.classSizes", Rows.laid_loop_example_g00978_impl_classSizes)] W := h
  have t_slotMasks := h'
  rw [list_slotMasks] at t_slotMasks
  have f_slotMasks := Lib.tabIs_of_head g_slotMasks ty_slotMasks Tryd.underlying170 Tryd.underlying3 el_slotMasks arr_slotMasks t_slotMasks
  have t_classSizes := h'.tail
  rw [list_classSizes] at t_classSizes
  have f_classSizes := Lib.tabIs_of_head g_classSizes ty_classSizes Tryd.underlying139 Tryd.underlying3 el_classSizes arr_classSizes t_classSizes
  exact { slotMasks := f_slotMasks, classSizes := f_classSizes }
end Laid
end Go.Proofs.YtgeakpeodhhffaaDoor

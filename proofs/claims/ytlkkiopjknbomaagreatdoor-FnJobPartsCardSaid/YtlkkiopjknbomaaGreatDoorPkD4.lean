/- Lemmas for the proofs, part 4 of 6: a symbolic run of the program, and what it needs. -/
import Derived.WalkKit
import Derived.Test.YtlkkiopjknbomaaGreatDoorPkD3
namespace Go.Proofs.YtlkkiopjknbomaaGreatDoor
open Go.RowKit
set_option linter.unusedVariables false
set_option linter.unusedSimpArgs false
namespace Eng
open Tr
section
variable {tt : TT} {ok : Ok} {all : List Oper} {n : Nat} {t : TL} {m : ML} {u : List Nat} {K : TL → ML → List Nat → Prop}
end
section
variable {P : Program} {F : Fr} {tt : TT}
end
end Eng
end Go.Proofs.YtlkkiopjknbomaaGreatDoor
namespace Go.Proofs.YtlkkiopjknbomaaGreatDoor
open Go.RowKit
set_option linter.unusedVariables false
set_option linter.unusedSimpArgs false
namespace Eng
open Tr
/-- the operations l, and what follows them -/
def AS (P : Program) (F : Fr) (Q : Exit → Act → World → Prop) (all l : List Oper) (inps : List Inp) (t : TL) (m : ML) (u : List Nat) : Prop :=
  ∀ a w, StRel F ⟨t, m, u⟩ a w → wpList P all.toArray Q l a w
section
variable {P : Program} {F : Fr} {tt : TT} {Q : Exit → Act → World → Prop} {all l : List Oper} {t : TL} {m : ML} {u : List Nat}
theorem as_nil {R : St → Prop} {k : List It} (h : AR P F R k ⟨t, m, u⟩) : AS P F (kont P F R k) all [] [] t m u := fun a w hS => h a w hS
theorem as_does {o : Oper} {inps' inps : List Inp} {g : Option Bool} {v : Option TV} {wr : ML} {al : List Nat} {ob1 : List Prop} (h1 : guardOf all t o.guard = some g) (h4 : guardOk g v wr al = some ob1) (h5 : disj al u = true) (h6 : dstOk F.n o.dst v = true) (k3 : AS P F Q all l inps' (putT o.dst v t) (app wr m) (app al u)) (k1 : All ob1)
    (hd : ∀ ρ a w, GT g → ARel F.X ρ F.n t a → MRel F.X ρ w m → WRel F.X w → (∀ r ∈ al, ρ r = none) → Does P F.X ρ w m al o a v wr) : AS P F Q all (o :: l) inps t m u := by
  intro a w hS
  obtain ⟨ρ, hE, hA, hM, hU, hW⟩ := hS
  have hfr : ∀ r ∈ al, ρ r = none := by
    intro r hr
    cases hq : ρ r with
    | none => rfl
    | some y => exact absurd (hU r y hq) (disj_sound h5 r hr)
  obtain ⟨hw1, hw2⟩ := guardOf_sound h1 hA
  have next : ∀ x w' ρ', (∀ tv, v = some tv → TRel F.X ρ' tv x) → Ext ρ ρ' → (∀ r y, ρ' r = some y → ρ r = some y ∨ r ∈ al) → MRel F.X ρ' w' (app wr m) → WRel F.X w' → wpList P all.toArray Q l (a.put o.dst x) w' := by
    intro x w' ρ' k1 k2 k3' k4 k5
    refine k3 _ _ ⟨ρ', fun q y hq => k2 q y (hE q y hq), (hA.ext k2).put' h6 k1, k4, fun r y hr => ?_, k5⟩
    show r ∈ app al u
    rw [app_eq, List.mem_append]
    rcases k3' r y hr with h | h
    · exact .inr (hU r y h)
    · exact .inl h
  unfold wpList
  cases hwt : Region.wanted o (yielded all.toArray a.tmps) with
  | true =>
    rw [if_pos rfl]
    exact .inl (hd ρ a w (hw1 hwt) hA hM hW hfr _ _ next)
  | false =>
    rw [if_neg (by simp)]
    obtain rfl := hw2 hwt
    unfold guardOk at h4
    split at h4
    · rename_i h1; cases h1
    · rename_i b b' s' h1
      obtain rfl := Option.some.inj h4
      obtain ⟨hb', _⟩ := k1
      have hbf : b = false := (Option.some.inj h1).symm
      refine next undef w ρ (fun tv htv => ?_) (Ext.refl ρ) (fun _ _ h => .inl h) hM hW
      obtain rfl := Option.some.inj htv
      exact ⟨(fun h => by rw [hb', hbf] at h; cases h), fun _ => rfl⟩
    · rename_i b h1 _
      obtain rfl := Option.some.inj h4
      have h2 : b = true := k1.1
      have h3 : b = false := (Option.some.inj h1).symm
      rw [h2] at h3; cases h3
theorem as_cons (htt : TTok P tt) {o : Oper} {inps inps' : List Inp} {g : Option Bool} {i : Inp} {v : Option TV} {wr : ML} {al us : List Nat} {ob ob1 : List Prop} (h1 : guardOf all t o.guard = some g) (h2 : takeI (needs t g o.op) inps = some (i, inps')) (h3 : evalOp tt (okX P F.X) t m (slotOf o.dst) g i o.op = some ⟨v, wr, al, us, ob⟩)
    (h4 : guardOk g v wr al = some ob1) (h5 : disj al u = true) (h6 : dstOk F.n o.dst v = true) (k3 : AS P F Q all l inps' (putT o.dst v t) (app wr m) (app al u)) (k1 : All (app ob1 ob)) : AS P F Q all (o :: l) inps t m u := by
  rw [All_app] at k1
  exact as_does h1 h4 h5 h6 k3 k1.1 (fun ρ a w hg hA hM hW hfr => op_does htt (okX_ok P F.X) h3 k1.2 hg hfr hA hM hW)
theorem as_cons3 {o : Oper} {inps inps' : List Inp} {g : Option Bool} {i : Inp} {v : Option TV} {wr : ML} {al us : List Nat} {ob ob1 : List Prop}
    (htt : TTok P tt) (k3 : AS P F Q all l inps' (putT o.dst v t) (app wr m) (app al u)) (k1 : All (app ob1 ob))
    (h1 : guardOf all t o.guard = some g := by exact rfl) (h2 : takeI (needs t g o.op) inps = some (i, inps') := by exact rfl) (h3 : evalOp tt (okX P F.X) t m (slotOf o.dst) g i o.op = some ⟨v, wr, al, us, ob⟩ := by exact rfl) (h4 : guardOk g v wr al = some ob1 := by exact rfl) (h5 : disj al u = true := by exact rfl) (h6 : dstOk F.n o.dst v = true := by exact rfl) : AS P F Q all (o :: l) inps t m u := as_cons htt h1 h2 h3 h4 h5 h6 k3 k1
theorem as_call (htt : TTok P tt) {o : Oper} {inps inps' : List Inp} {g : Option Bool} {c : CFD} {f : Nat} {cl : Call} {vs : List SV} {o1 : List Prop} {π : List (Nat × Nat)} {v : Option TV} {wr : ML} {al us : List Nat} {ob ob1 : List Prop} (h1 : guardOf all t o.guard = some g) (h2 : takeI (needs t g o.op) inps = some (.call c, inps')) (ho : o.op = .call cl) (hc : cl.callee = .value (.func f)) (hf : Nat.beq c.f f = true)
    (hv : opdsOf t g cl.args.toList = some (vs, o1)) (hπ : mpM c.pre m (mpSs c.args vs []) = π) (hG : evCallG (okX P F.X) o1 vs m (slotOf o.dst) g c π = some ⟨v, wr, al, us, ob⟩)
    (h4 : guardOk g v wr al = some ob1) (h5 : disj al u = true) (h6 : dstOk F.n o.dst v = true) (k3 : AS P F Q all l inps' (putT o.dst v t) (app wr m) (app al u)) (k1 : All (app ob1 ob)) : AS P F Q all (o :: l) inps t m u := by
  refine as_cons htt (us := us) h1 h2 ?_ h4 h5 h6 k3 k1
  rw [ho]
  simp only [evalOp, hc, evCall, hf, hv, hπ]
  exact hG
theorem as_call3 {o : Oper} {inps inps' : List Inp} {g : Option Bool} {c : CFD} {f : Nat} {cl : Call} {vs : List SV} {o1 : List Prop} {π : List (Nat × Nat)} {v : Option TV} {wr : ML} {al us : List Nat} {ob ob1 : List Prop}
    (htt : TTok P tt) (k3 : AS P F Q all l inps' (putT o.dst v t) (app wr m) (app al u)) (k1 : All (app ob1 ob))
    (h1 : guardOf all t o.guard = some g := by exact rfl) (h2 : takeI (needs t g o.op) inps = some (.call c, inps') := by exact rfl) (ho : o.op = .call cl := by exact rfl) (hc : cl.callee = .value (.func f) := by exact rfl) (hf : Nat.beq c.f f = true := by exact rfl) (hv : opdsOf t g cl.args.toList = some (vs, o1) := by exact rfl) (hπ : mpM c.pre m (mpSs c.args vs []) = π := by dsimp only [mpCap, Nat.reduceAdd, Nat.reduceMul, Nat.zero_add, List.map, mpM, mpTL, mpO, mpB, lkO, mpT, mpSs, mpS, mpCs, mpC, mpN, lk, idN, keys, resT, ro] <;> exact rfl) (hG : evCallG (okX P F.X) o1 vs m (slotOf o.dst) g c π = some ⟨v, wr, al, us, ob⟩ := by exact rfl) (h4 : guardOk g v wr al = some ob1 := by exact rfl) (h5 : disj al u = true := by exact rfl) (h6 : dstOk F.n o.dst v = true := by exact rfl) : AS P F Q all (o :: l) inps t m u := as_call htt h1 h2 ho hc hf hv hπ hG h4 h5 h6 k3 k1
theorem as_sure (htt : TTok P tt) {o : Oper} {inps inps' : List Inp} {g : Option Bool} {c : CFD} {f : Nat} {cl : Call} {vs : List SV} {o1 : List Prop} {π : List (Nat × Nat)} {v : Option TV} {wr : ML} {al us : List Nat} {ob ob1 : List Prop} (h1 : guardOf all t o.guard = some g) (h2 : takeI (needs t g o.op) inps = some (.sure c, inps')) (ho : o.op = .call cl) (hc : cl.callee = .value (.func f)) (hf : Nat.beq c.f f = true)
    (hv : opdsOf t g cl.args.toList = some (vs, o1)) (hπ : mpM c.pre m (mpSs c.args vs []) = π) (hG : evCallG (okX P F.X) o1 vs m (slotOf o.dst) none c π = some ⟨v, wr, al, us, ob⟩)
    (h4 : guardOk g v wr al = some ob1) (h5 : disj al u = true) (h6 : dstOk F.n o.dst v = true) (k3 : AS P F Q all l inps' (putT o.dst v t) (app wr m) (app al u)) (k1 : All (app ob1 ob)) : AS P F Q all (o :: l) inps t m u := by
  refine as_cons htt (us := us) h1 h2 ?_ h4 h5 h6 k3 k1
  rw [ho]
  simp only [evalOp, hc, evCall, hf, hv, hπ]
  exact hG
theorem as_sure3 {o : Oper} {inps inps' : List Inp} {g : Option Bool} {c : CFD} {f : Nat} {cl : Call} {vs : List SV} {o1 : List Prop} {π : List (Nat × Nat)} {v : Option TV} {wr : ML} {al us : List Nat} {ob ob1 : List Prop}
    (htt : TTok P tt) (k3 : AS P F Q all l inps' (putT o.dst v t) (app wr m) (app al u)) (k1 : All (app ob1 ob))
    (h1 : guardOf all t o.guard = some g := by exact rfl) (h2 : takeI (needs t g o.op) inps = some (.sure c, inps') := by exact rfl) (ho : o.op = .call cl := by exact rfl) (hc : cl.callee = .value (.func f) := by exact rfl) (hf : Nat.beq c.f f = true := by exact rfl) (hv : opdsOf t g cl.args.toList = some (vs, o1) := by exact rfl) (hπ : mpM c.pre m (mpSs c.args vs []) = π := by dsimp only [mpCap, Nat.reduceAdd, Nat.reduceMul, Nat.zero_add, List.map, mpM, mpTL, mpO, mpB, lkO, mpT, mpSs, mpS, mpCs, mpC, mpN, lk, idN, keys, resT, ro] <;> exact rfl) (hG : evCallG (okX P F.X) o1 vs m (slotOf o.dst) none c π = some ⟨v, wr, al, us, ob⟩ := by exact rfl) (h4 : guardOk g v wr al = some ob1 := by exact rfl) (h5 : disj al u = true := by exact rfl) (h6 : dstOk F.n o.dst v = true := by exact rfl) : AS P F Q all (o :: l) inps t m u := as_sure htt h1 h2 ho hc hf hv hπ hG h4 h5 h6 k3 k1
def wrapB : BinOp → IntKind → Int → Int → Option Int
  | .add, k, a, b => some (k.wrap (a + b))
  | .sub, k, a, b => some (k.wrap (a - b))
  | .mul, k, a, b => some (k.wrap (a * b))
  | _, _, _, _ => none
/-- arithmetic that wraps -/
theorem as_wrap {o : Oper} {inps : List Inp} {op : BinOp} {T T' : Nat} {x y : Operand} {k : IntKind} {p q z : Int} {o1 o2 : List Prop} (h1 : guardOf all t o.guard = some none) (ho : o.op = .binOp op T x y T') (hx : opd t none x = some (.one (.lit (.int k p)), o1)) (hy : opd t none y = some (.one (.lit (.int k q)), o2)) (hz : wrapB op k p q = some z)
    (h6 : dstOk F.n o.dst (some (.sv (.one (.lit (.int k z))))) = true) (k3 : AS P F Q all l inps (putT o.dst (some (.sv (.one (.lit (.int k z))))) t) m u) (k1 : All (app o1 o2)) : AS P F Q all (o :: l) inps t m u := by
  rw [All_app] at k1
  refine as_does (wr := []) (al := []) (inps' := inps) h1 rfl rfl h6 k3 trivial (fun ρ a w hg hA hM hW hfr => ?_)
  refine Runs.does ?_
  have ex := (opd_sound hx k1.1 hg hA).1
  have ey := (opd_sound hy k1.2 hg hA).1
  have hb : (binOp op T (.int k p) (.int k q)).run P w = .ok (.int k z) w := by
    cases op <;> simp [wrapB] at hz <;> subst hz <;> simp [binOp, Op.intArith]
  have hguard : (eqGuard op T x y (.int k p) (.int k q)).run P w = .ok () w := by
    unfold eqGuard
    cases op <;> simp [wrapB] at hz <;> simp
  exact Runs.pure (v := .sv (.one (.lit (.int k z)))) (by simp [execOp, ho, ex, ey, hguard, hb]) ⟨rfl, rfl⟩ hM hW
theorem as_wrap3 {o : Oper} {inps : List Inp} {op : BinOp} {T T' : Nat} {x y : Operand} {k : IntKind} {p q z : Int} {o1 o2 : List Prop}
    (k3 : AS P F Q all l inps (putT o.dst (some (.sv (.one (.lit (.int k z))))) t) m u) (k1 : All (app o1 o2))
    (h1 : guardOf all t o.guard = some none := by exact rfl) (ho : o.op = .binOp op T x y T' := by exact rfl) (hx : opd t none x = some (.one (.lit (.int k p)), o1) := by exact rfl) (hy : opd t none y = some (.one (.lit (.int k q)), o2) := by exact rfl) (hz : wrapB op k p q = some z := by exact rfl) (h6 : dstOk F.n o.dst (some (.sv (.one (.lit (.int k z))))) = true := by exact rfl) : AS P F Q all (o :: l) inps t m u := as_wrap h1 ho hx hy hz h6 k3 k1
/-- only these blocks -/
def selB (ks : List Nat) : ML → ML
  | [] => []
  | (q, b) :: m => match hasN ks q with
    | true => (q, b) :: selB ks m
    | false => selB ks m
theorem selB_lk {ks : List Nat} : ∀ {m : ML} {q : Nat} {b : Option Blk}, lk (selB ks m) q = some b → lk m q = some b
  | [], _, _, h => h
  | (r, c) :: m, q, b, h => by
    unfold selB at h
    split at h
    · rw [lk_cons] at h ⊢
      split
      · rename_i e; rw [if_pos e] at h; exact h
      · rename_i e; rw [if_neg e] at h; exact selB_lk h
    · rename_i hr
      rw [lk_cons]
      by_cases e : r = q
      · subst e
        exfalso
        have : ∀ {m : ML} {b : Option Blk}, lk (selB ks m) r ≠ some b := by
          intro m
          induction m with
          | nil => intro b h; cases h
          | cons x m ih =>
            intro b h
            obtain ⟨y, d⟩ := x
            unfold selB at h
            split at h
            · rename_i hy
              rw [lk_cons] at h
              by_cases e : y = r
              · subst e; rw [hr] at hy; cases hy
              · rw [if_neg e] at h; exact ih h
            · exact ih h
        exact this h
      · rw [if_neg e]; exact selB_lk h
theorem ar_blocks (ks : List Nat) {R : St → Prop} {k : List It} {m' : ML} (hm : selB ks m = m') (h : AR P F R k ⟨t, m', u⟩) : AR P F R k ⟨t, m, u⟩ := by
  subst hm
  intro a w hS
  obtain ⟨ρ, hE, hA, ⟨B, hM⟩, hU, hW⟩ := hS
  exact h a w ⟨ρ, hE, hA, ⟨B, hM.less (Ext.refl ρ) (fun _ _ => rfl) (fun q bq hq => selB_lk hq)⟩, hU, hW⟩
theorem ar_run {R : St → Prop} {k : List It} {id : Nat} {ops : List Oper} (inps : List Inp) (h : AS P F (kont P F R k) ops ops inps t m u) : AR P F R (.code (.region id ⟨ops⟩ false) :: k) ⟨t, m, u⟩ :=
  fun a w hS => wp_region_lit (h a w hS)
end
end Eng
end Go.Proofs.YtlkkiopjknbomaaGreatDoor
namespace Go.Proofs.YtlkkiopjknbomaaGreatDoor
open Go.RowKit
set_option linter.unusedVariables false
set_option linter.unusedSimpArgs false
namespace Eng
open Tr
/-- the operations l are told one by one; K: what is asked of those that are told, and of what is known behind them -/
def ED (K : List Rc → TL → ML → List Nat → Prop) (tt : TT) (ok : Ok) (all : List Oper) (n : Nat) (l : List Oper) (inps : List Inp) (t : TL) (m : ML) (u : List Nat) : Prop := ∃ rs, evalD tt ok all n l inps t m u = some rs ∧ K rs (endT rs t) (endM rs m) (endU rs u)
section
variable {K : List Rc → TL → ML → List Nat → Prop} {tt : TT} {ok : Ok} {all l : List Oper} {n : Nat} {t : TL} {m : ML} {u : List Nat}
theorem ed_hide {inps : List Inp} (h : ∀ K', K' = K → ED K' tt ok all n l inps t m u) : ED K tt ok all n l inps t m u := h K rfl
theorem ed_nil (h : K [] t m u) : ED K tt ok all n [] [] t m u := ⟨[], rfl, h⟩
theorem ed_cons {o : Oper} {inps inps' : List Inp} {g : Option Bool} {i : Inp} {v0 v : Option TV} {wr0 wr ms : ML} {ts : TL} {al0 al N us sl : List Nat} {ob0 ob ob1 : List Prop} (hsl : app (slotsOf o.op) (guardS all o.guard) = sl) (hts : selT t sl = ts) (h1 : guardOf all ts o.guard = some g) (h2 : takeI (needs t g o.op) inps = some (i, inps'))
    (h3 : evalOp tt ok t m (slotOf o.dst) g i o.op = some ⟨v0, wr0, al0, N, ob0⟩) (hms : selM m N = ms) (h4 : evalOp tt ok ts ms (slotOf o.dst) g i o.op = some ⟨v, wr, al, us, ob⟩)
    (h5 : guardOk g v wr al = some ob1) (h6 : disj al u = true) (h7 : dstOk n o.dst v = true) (k : ED (fun rs => K (⟨o, sl, N, g, i, ⟨v, wr, al, us, ob⟩, ob1⟩ :: rs)) tt ok all n l inps' (putT o.dst v t) (app wr m) (app al u)) : ED K tt ok all n (o :: l) inps t m u := by
  obtain ⟨rs, hr, hk⟩ := k
  subst hsl hts hms
  refine ⟨_ :: rs, ?_, hk⟩
  unfold evalD
  simp only [h1, h2, h3, h4, h5, h6, h7, hr]
theorem ed_cons3 {o : Oper} {inps inps' : List Inp} {g : Option Bool} {i : Inp} {v0 v : Option TV} {wr0 wr ms : ML} {ts : TL} {al0 al N us sl : List Nat} {ob0 ob ob1 : List Prop}
    (k : ED (fun rs => K (⟨o, sl, N, g, i, ⟨v, wr, al, us, ob⟩, ob1⟩ :: rs)) tt ok all n l inps' (putT o.dst v t) (app wr m) (app al u))
    (hsl : app (slotsOf o.op) (guardS all o.guard) = sl := by dsimp only [selT, selM, hasN, app, slotsOf, guardS, nth, opS, opsS, partsS] <;> exact rfl) (hts : selT t sl = ts := by dsimp only [selT, selM, hasN, app, slotsOf, guardS, nth, opS, opsS, partsS] <;> exact rfl) (h1 : guardOf all ts o.guard = some g := by exact rfl) (h2 : takeI (needs t g o.op) inps = some (i, inps') := by exact rfl) (h3 : evalOp tt ok t m (slotOf o.dst) g i o.op = some ⟨v0, wr0, al0, N, ob0⟩ := by exact rfl) (hms : selM m N = ms := by dsimp only [selT, selM, hasN, app, slotsOf, guardS, nth, opS, opsS, partsS, mpCap, Nat.reduceAdd, Nat.reduceMul, Nat.zero_add, List.map, mpM, mpTL, mpO, mpB, lkO, mpT, mpSs, mpS, mpCs, mpC, mpN, lk, idN, keys, resT, ro, rnN, rn, SV.cells, slotOf] <;> exact rfl) (h4 : evalOp tt ok ts ms (slotOf o.dst) g i o.op = some ⟨v, wr, al, us, ob⟩ := by exact rfl) (h5 : guardOk g v wr al = some ob1 := by exact rfl) (h6 : disj al u = true := by exact rfl) (h7 : dstOk n o.dst v = true := by exact rfl) : ED K tt ok all n (o :: l) inps t m u := ed_cons hsl hts h1 h2 h3 hms h4 h5 h6 h7 k
theorem ed_call {o : Oper} {inps inps' : List Inp} {g : Option Bool} {c : CFD} {f : Nat} {cl : Call} {vs vs' : List SV} {o1 o1' : List Prop} {π π' : List (Nat × Nat)} {v0 v : Option TV} {wr0 wr ms : ML} {ts : TL} {al0 al N us sl : List Nat} {ob0 ob ob1 : List Prop} (hsl : app (slotsOf o.op) (guardS all o.guard) = sl) (hts : selT t sl = ts) (h1 : guardOf all ts o.guard = some g) (h2 : takeI (needs t g o.op) inps = some (.call c, inps')) (ho : o.op = .call cl) (hc : cl.callee = .value (.func f)) (hf : Nat.beq c.f f = true)
    (hv : opdsOf t g cl.args.toList = some (vs, o1)) (hπ : mpM c.pre m (mpSs c.args vs []) = π) (hG : evCallG ok o1 vs m (slotOf o.dst) g c π = some ⟨v0, wr0, al0, N, ob0⟩) (hms : selM m N = ms)
    (hv' : opdsOf ts g cl.args.toList = some (vs', o1')) (hπ' : mpM c.pre ms (mpSs c.args vs' []) = π') (hG' : evCallG ok o1' vs' ms (slotOf o.dst) g c π' = some ⟨v, wr, al, us, ob⟩)
    (h5 : guardOk g v wr al = some ob1) (h6 : disj al u = true) (h7 : dstOk n o.dst v = true) (k : ED (fun rs => K (⟨o, sl, N, g, .call c, ⟨v, wr, al, us, ob⟩, ob1⟩ :: rs)) tt ok all n l inps' (putT o.dst v t) (app wr m) (app al u)) : ED K tt ok all n (o :: l) inps t m u := by
  refine ed_cons hsl hts h1 h2 (v0 := v0) (wr0 := wr0) (al0 := al0) (ob0 := ob0) ?_ hms ?_ h5 h6 h7 k
  · rw [ho]
    simp only [evalOp, hc, evCall, hf, hv, hπ]
    exact hG
  · rw [ho]
    simp only [evalOp, hc, evCall, hf, hv', hπ']
    exact hG'
theorem ed_call3 {o : Oper} {inps inps' : List Inp} {g : Option Bool} {c : CFD} {f : Nat} {cl : Call} {vs vs' : List SV} {o1 o1' : List Prop} {π π' : List (Nat × Nat)} {v0 v : Option TV} {wr0 wr ms : ML} {ts : TL} {al0 al N us sl : List Nat} {ob0 ob ob1 : List Prop}
    (k : ED (fun rs => K (⟨o, sl, N, g, .call c, ⟨v, wr, al, us, ob⟩, ob1⟩ :: rs)) tt ok all n l inps' (putT o.dst v t) (app wr m) (app al u))
    (hsl : app (slotsOf o.op) (guardS all o.guard) = sl := by dsimp only [selT, selM, hasN, app, slotsOf, guardS, nth, opS, opsS, partsS] <;> exact rfl) (hts : selT t sl = ts := by dsimp only [selT, selM, hasN, app, slotsOf, guardS, nth, opS, opsS, partsS] <;> exact rfl) (h1 : guardOf all ts o.guard = some g := by exact rfl) (h2 : takeI (needs t g o.op) inps = some (.call c, inps') := by exact rfl) (ho : o.op = .call cl := by exact rfl) (hc : cl.callee = .value (.func f) := by exact rfl) (hf : Nat.beq c.f f = true := by exact rfl) (hv : opdsOf t g cl.args.toList = some (vs, o1) := by exact rfl) (hπ : mpM c.pre m (mpSs c.args vs []) = π := by dsimp only [mpCap, Nat.reduceAdd, Nat.reduceMul, Nat.zero_add, List.map, mpM, mpTL, mpO, mpB, lkO, mpT, mpSs, mpS, mpCs, mpC, mpN, lk, idN, keys, resT, ro] <;> exact rfl) (hG : evCallG ok o1 vs m (slotOf o.dst) g c π = some ⟨v0, wr0, al0, N, ob0⟩ := by exact rfl) (hms : selM m N = ms := by dsimp only [selT, selM, hasN, app, slotsOf, guardS, nth, opS, opsS, partsS, mpCap, Nat.reduceAdd, Nat.reduceMul, Nat.zero_add, List.map, mpM, mpTL, mpO, mpB, lkO, mpT, mpSs, mpS, mpCs, mpC, mpN, lk, idN, keys, resT, ro, rnN, rn, SV.cells, slotOf] <;> exact rfl) (hv' : opdsOf ts g cl.args.toList = some (vs', o1') := by exact rfl) (hπ' : mpM c.pre ms (mpSs c.args vs' []) = π' := by dsimp only [mpCap, Nat.reduceAdd, Nat.reduceMul, Nat.zero_add, List.map, mpM, mpTL, mpO, mpB, lkO, mpT, mpSs, mpS, mpCs, mpC, mpN, lk, idN, keys, resT, ro] <;> exact rfl) (hG' : evCallG ok o1' vs' ms (slotOf o.dst) g c π' = some ⟨v, wr, al, us, ob⟩ := by exact rfl) (h5 : guardOk g v wr al = some ob1 := by exact rfl) (h6 : disj al u = true := by exact rfl) (h7 : dstOk n o.dst v = true := by exact rfl) : ED K tt ok all n (o :: l) inps t m u := ed_call hsl hts h1 h2 ho hc hf hv hπ hG hms hv' hπ' hG' h5 h6 h7 k
theorem ed_sure {o : Oper} {inps inps' : List Inp} {g : Option Bool} {c : CFD} {f : Nat} {cl : Call} {vs vs' : List SV} {o1 o1' : List Prop} {π π' : List (Nat × Nat)} {v0 v : Option TV} {wr0 wr ms : ML} {ts : TL} {al0 al N us sl : List Nat} {ob0 ob ob1 : List Prop} (hsl : app (slotsOf o.op) (guardS all o.guard) = sl) (hts : selT t sl = ts) (h1 : guardOf all ts o.guard = some g) (h2 : takeI (needs t g o.op) inps = some (.sure c, inps')) (ho : o.op = .call cl) (hc : cl.callee = .value (.func f)) (hf : Nat.beq c.f f = true)
    (hv : opdsOf t g cl.args.toList = some (vs, o1)) (hπ : mpM c.pre m (mpSs c.args vs []) = π) (hG : evCallG ok o1 vs m (slotOf o.dst) none c π = some ⟨v0, wr0, al0, N, ob0⟩) (hms : selM m N = ms)
    (hv' : opdsOf ts g cl.args.toList = some (vs', o1')) (hπ' : mpM c.pre ms (mpSs c.args vs' []) = π') (hG' : evCallG ok o1' vs' ms (slotOf o.dst) none c π' = some ⟨v, wr, al, us, ob⟩)
    (h5 : guardOk g v wr al = some ob1) (h6 : disj al u = true) (h7 : dstOk n o.dst v = true) (k : ED (fun rs => K (⟨o, sl, N, g, .sure c, ⟨v, wr, al, us, ob⟩, ob1⟩ :: rs)) tt ok all n l inps' (putT o.dst v t) (app wr m) (app al u)) : ED K tt ok all n (o :: l) inps t m u := by
  refine ed_cons hsl hts h1 h2 (v0 := v0) (wr0 := wr0) (al0 := al0) (ob0 := ob0) ?_ hms ?_ h5 h6 h7 k
  · rw [ho]
    simp only [evalOp, hc, evCall, hf, hv, hπ]
    exact hG
  · rw [ho]
    simp only [evalOp, hc, evCall, hf, hv', hπ']
    exact hG'
theorem ed_sure3 {o : Oper} {inps inps' : List Inp} {g : Option Bool} {c : CFD} {f : Nat} {cl : Call} {vs vs' : List SV} {o1 o1' : List Prop} {π π' : List (Nat × Nat)} {v0 v : Option TV} {wr0 wr ms : ML} {ts : TL} {al0 al N us sl : List Nat} {ob0 ob ob1 : List Prop}
    (k : ED (fun rs => K (⟨o, sl, N, g, .sure c, ⟨v, wr, al, us, ob⟩, ob1⟩ :: rs)) tt ok all n l inps' (putT o.dst v t) (app wr m) (app al u))
    (hsl : app (slotsOf o.op) (guardS all o.guard) = sl := by dsimp only [selT, selM, hasN, app, slotsOf, guardS, nth, opS, opsS, partsS] <;> exact rfl) (hts : selT t sl = ts := by dsimp only [selT, selM, hasN, app, slotsOf, guardS, nth, opS, opsS, partsS] <;> exact rfl) (h1 : guardOf all ts o.guard = some g := by exact rfl) (h2 : takeI (needs t g o.op) inps = some (.sure c, inps') := by exact rfl) (ho : o.op = .call cl := by exact rfl) (hc : cl.callee = .value (.func f) := by exact rfl) (hf : Nat.beq c.f f = true := by exact rfl) (hv : opdsOf t g cl.args.toList = some (vs, o1) := by exact rfl) (hπ : mpM c.pre m (mpSs c.args vs []) = π := by dsimp only [mpCap, Nat.reduceAdd, Nat.reduceMul, Nat.zero_add, List.map, mpM, mpTL, mpO, mpB, lkO, mpT, mpSs, mpS, mpCs, mpC, mpN, lk, idN, keys, resT, ro] <;> exact rfl) (hG : evCallG ok o1 vs m (slotOf o.dst) none c π = some ⟨v0, wr0, al0, N, ob0⟩ := by exact rfl) (hms : selM m N = ms := by dsimp only [selT, selM, hasN, app, slotsOf, guardS, nth, opS, opsS, partsS, mpCap, Nat.reduceAdd, Nat.reduceMul, Nat.zero_add, List.map, mpM, mpTL, mpO, mpB, lkO, mpT, mpSs, mpS, mpCs, mpC, mpN, lk, idN, keys, resT, ro, rnN, rn, SV.cells, slotOf] <;> exact rfl) (hv' : opdsOf ts g cl.args.toList = some (vs', o1') := by exact rfl) (hπ' : mpM c.pre ms (mpSs c.args vs' []) = π' := by dsimp only [mpCap, Nat.reduceAdd, Nat.reduceMul, Nat.zero_add, List.map, mpM, mpTL, mpO, mpB, lkO, mpT, mpSs, mpS, mpCs, mpC, mpN, lk, idN, keys, resT, ro] <;> exact rfl) (hG' : evCallG ok o1' vs' ms (slotOf o.dst) none c π' = some ⟨v, wr, al, us, ob⟩ := by exact rfl) (h5 : guardOk g v wr al = some ob1 := by exact rfl) (h6 : disj al u = true := by exact rfl) (h7 : dstOk n o.dst v = true := by exact rfl) : ED K tt ok all n (o :: l) inps t m u := ed_sure hsl hts h1 h2 ho hc hf hv hπ hG hms hv' hπ' hG' h5 h6 h7 k
end
section
variable {P : Program} {F : Fr} {tt : TT} {R : St → Prop} {k : List It}
theorem ar_drawS (htt : TTok P tt) (hmix : P.follows .mixedOrders = true) {id : Nat} {ops : List Oper} (inps : List Inp) {t : TL} {m : ML} {u : List Nat}
    (h : ED (fun rs t' m' u' => ∃ prs, prsOf ops [] = some prs ∧ ckAll [] rs prs = true ∧ AR P F R k ⟨t', m', u'⟩ ∧ All (obD rs)) tt (okX P F.X) ops F.n ops inps t m u) : AR P F R (.code (.region id ⟨ops⟩ true) :: k) ⟨t, m, u⟩ := by
  obtain ⟨rs, h1, prs, h2, h3, h4, h5⟩ := h
  exact ar_draw htt hmix h1 h2 h3 rfl rfl rfl rfl h5 h4
end
end Eng
end Go.Proofs.YtlkkiopjknbomaaGreatDoor
namespace Go.Proofs.YtlkkiopjknbomaaGreatDoor
open Go.RowKit
set_option linter.unusedVariables false
set_option linter.unusedSimpArgs false
set_option maxRecDepth 100000
namespace Eng
open Tr
def eU (x : Int) : D := .lit (.int .u8 x) .nil
/-- where the cursor stands -/
structure Cu where
  i : Nat
  h : Int
def hStep (h : Int) : Int := IntKind.i64.wrap (IntKind.i64.wrap (h * 6364136223846793005) + 1442695040888963407)
def xOf (h : Int) : Int := IntKind.i64.wrap (BitVec.ofInt IntKind.i64.bits (IntKind.i64.wrap (BitVec.ofInt IntKind.i64.bits (h.fdiv (2 ^ min (Int.toNat 33) IntKind.i64.bits)) ^^^ BitVec.ofInt IntKind.i64.bits (h.fdiv (2 ^ min (Int.toNat 45) IntKind.i64.bits))).toNat) &&& BitVec.ofInt IntKind.i64.bits 255).toNat
def yOf (x b : Int) : Int := IntKind.i64.wrap (BitVec.ofInt IntKind.i64.bits (x + IntKind.i64.wrap b) &&& BitVec.ofInt IntKind.i64.bits 255).toNat
/-- a byte's worth -/
def dByte (bs : List Int) (c : Cu) : Int × Cu := if c.i < bs.length then (yOf (xOf (hStep c.h)) (bs.getD c.i 0), ⟨c.i + 1, hStep c.h⟩) else (xOf (hStep c.h), ⟨c.i, hStep c.h⟩)
theorem and255 (z : Int) : 0 ≤ IntKind.i64.wrap ((BitVec.ofInt IntKind.i64.bits z &&& BitVec.ofInt IntKind.i64.bits 255).toNat : Int) ∧ IntKind.i64.wrap ((BitVec.ofInt IntKind.i64.bits z &&& BitVec.ofInt IntKind.i64.bits 255).toNat : Int) ≤ 255 := by
  have h : (BitVec.ofInt IntKind.i64.bits z &&& BitVec.ofInt IntKind.i64.bits 255).toNat ≤ 255 := by
    rw [BitVec.toNat_and]
    exact Nat.le_trans Nat.and_le_right (by decide)
  rw [IntWalk.i64_in _ ⟨by omega, by omega⟩]
  omega
theorem dByte_lt (bs : List Int) (c : Cu) : 0 ≤ (dByte bs c).1 ∧ (dByte bs c).1 ≤ 255 := by
  unfold dByte
  split
  · exact and255 _
  · exact and255 _
/-- a cursor over the bytes -/
structure okCu (bs : List Int) (c : Cu) : Prop where
  l : bs.length ≤ 2097152
  b : ∀ x ∈ bs, 0 ≤ x ∧ x ≤ 255
  i : c.i ≤ bs.length
theorem dByte_ok {bs : List Int} {c : Cu} (h : okCu bs c) : okCu bs (dByte bs c).2 := by
  unfold dByte
  split
  · exact ⟨h.l, h.b, by show c.i + 1 ≤ _; omega⟩
  · exact ⟨h.l, h.b, h.i⟩
def c_Byte (bs : List Int) (c : Cu) : CFD := ⟨100, [.one (.box 0 0)], [(0, some (.box 127 [ro 5 1 eU bs, (CV.lit (.int .i64 ((c.i : Int)))), (CV.lit (.int .i64 (c.h)))]))], (TV.sv (.one (.lit (.int .i64 ((dByte bs c).1))))), [(0, some (.box 127 [ro 5 1 eU bs, (CV.lit (.int .i64 (((dByte bs c).2.i : Int)))), (CV.lit (.int .i64 ((dByte bs c).2.h)))]))], [], []⟩
theorem fn_Byte (bs : List Int) (c : Cu) (hc : okCu bs c) : Fn Tryz.prog (c_Byte bs c) := by
  have hl := hc.l
  have hi := hc.i
  refine fn_intro tt_ok Tryz.func100 rfl Tryz.call100 Tryz.ntmps100 Tryz.results100 rfl rfl rfl rfl ?_
  intro X ρ0 hb_ hgl_
  dsimp only [c_Byte]
  try refine nrm ?_
  repeat' (refine ar_id ?_; first | refine st1 ?_ | (refine ar_run (id := 1) [] ?_; generalize hQ_ : kont _ _ _ _ = Q_; repeat' (first | (focus ((first | refine as_call3 tt_ok ?_ ?_ | refine as_sure3 tt_ok ?_ ?_ | refine as_wrap3 ?_ ?_ | refine as_cons3 tt_ok ?_ ?_); (try refine nrm ?_); rotate_left)) | (subst hQ_; refine as_nil ?_))) | (first | ((first | refine ar_region tt_ok (inps := []) rfl ?_ ?_); rotate_left; (try refine nrm ?_); rotate_right) | refine ret3 ?_ | refine end3 ?_) | (refine ar_cond rfl trivial ?_ ?_ <;> intro hc_ <;> (try simp only [isNilI, inB, reduceCtorEq, cds] at hc_) <;> (try (first | contradiction | (exfalso; omega)))) | refine ar_until (And.intro ?_ (wk3 ?_)))
  all_goals (first | refine ar_id ?_ | (try (focus ((try refine nrmO ?_); (repeat' (first | exact True.intro | refine And.intro ?_ ?_)); all_goals (try (intro (hg_ : _ = true); (try simp only [isNilI, inB, reduceCtorEq, cds] at hg_); (repeat' (first | exact True.intro | refine And.intro ?_ ?_)))); all_goals (first | exact ob1 | skip)))))
  refine ar_keep 13 (by dsimp only [keepS] <;> exact rfl) ?_
  repeat' (refine ar_id ?_; first | refine st1 ?_ | (first | ((first | refine ar_draw (id := 2) (inps := []) tt_ok (by kernel_rfl) rfl rfl (by kernel_rfl) rfl rfl rfl rfl ?_ ?_ | refine ar_draw (id := 3) (inps := []) tt_ok (by kernel_rfl) rfl rfl (by kernel_rfl) rfl rfl rfl rfl ?_ ?_ | refine ar_draw (id := 4) (inps := [.elem (eU (bs.getD c.i 0))]) tt_ok (by kernel_rfl) rfl rfl (by kernel_rfl) rfl rfl rfl rfl ?_ ?_ | refine ar_region tt_ok (inps := []) rfl ?_ ?_); rotate_left; (try refine nrm ?_); rotate_right) | refine ret3 ?_ | refine end3 ?_) | (refine ar_cond rfl trivial ?_ ?_ <;> intro hc_ <;> (try simp only [isNilI, inB, reduceCtorEq, cds] at hc_) <;> (try (first | contradiction | (exfalso; omega)))) | refine ar_until (And.intro ?_ (wk3 ?_)))
  all_goals (first | refine ar_id ?_ | (try (focus ((try refine nrmO ?_); (repeat' (first | exact True.intro | refine And.intro ?_ ?_)); all_goals (try (intro (hg_ : _ = true); (try simp only [isNilI, inB, reduceCtorEq, cds] at hg_); (repeat' (first | exact True.intro | refine And.intro ?_ ?_)))); all_goals (first | exact ob1 | skip)))))
  · have h1 := and255 (IntKind.i64.wrap (BitVec.ofInt IntKind.i64.bits ((hStep c.h).fdiv (2 ^ min (Int.toNat 33) IntKind.i64.bits)) ^^^ BitVec.ofInt IntKind.i64.bits ((hStep c.h).fdiv (2 ^ min (Int.toNat 45) IntKind.i64.bits))).toNat)
    have h2 := hc.b _ (getD_in (l := bs) (i := c.i) (d := 0) (by omega))
    have h3 : IntKind.i64.wrap (bs.getD c.i 0) = bs.getD c.i 0 := IntWalk.i64_in _ ⟨by omega, by omega⟩
    rw [h3]
    exact i64_ok (by unfold hStep at h1; omega) (by unfold hStep at h1; omega)
  all_goals unfold dByte
  all_goals first | rw [if_pos (by omega)] | rw [if_neg (by omega)]
  all_goals rfl
/-- below a number -/
def dBelow (bs : List Int) (c : Cu) (n : Int) : Int × Cu :=
  if n ≤ 0 then (0, c)
  else if n ≤ 256 then ((dByte bs c).1.tmod n, (dByte bs c).2)
  else
    let c1 := (dByte bs c).2
    let c2 := (dByte bs c1).2
    let c3 := (dByte bs c2).2
    (((dByte bs c).1 * 16777216 + (dByte bs c1).1 * 65536 + (dByte bs c2).1 * 256 + (dByte bs c3).1).tmod n, (dByte bs c3).2)
theorem dBelow_lt (bs : List Int) (c : Cu) (n : Int) (h : 0 < n) : 0 ≤ (dBelow bs c n).1 ∧ (dBelow bs c n).1 < n := by
  have h0 := dByte_lt bs c
  have h1 := dByte_lt bs (dByte bs c).2
  have h2 := dByte_lt bs (dByte bs (dByte bs c).2).2
  have h3 := dByte_lt bs (dByte bs (dByte bs (dByte bs c).2).2).2
  have key : ∀ x : Int, 0 ≤ x → 0 ≤ x.tmod n ∧ x.tmod n < n := fun x hx => by
    rw [Int.tmod_eq_emod_of_nonneg hx]
    exact ⟨Int.emod_nonneg x (by omega), Int.emod_lt_of_pos x h⟩
  unfold dBelow
  rw [if_neg (by omega)]
  split
  · exact key _ h0.1
  · exact key _ (by omega)
theorem dBelow_ok {bs : List Int} {c : Cu} (n : Int) (h : okCu bs c) : okCu bs (dBelow bs c n).2 := by
  unfold dBelow
  split
  · exact h
  · split
    · exact dByte_ok h
    · exact dByte_ok (dByte_ok (dByte_ok (dByte_ok h)))
def c_Below (bs : List Int) (c : Cu) (n : Int) : CFD := ⟨55, [.one (.box 0 0), (SV.one (.lit (.int .i64 (n))))], [(0, some (.box 127 [ro 5 1 eU bs, (CV.lit (.int .i64 ((c.i : Int)))), (CV.lit (.int .i64 (c.h)))]))], (TV.sv (.one (.lit (.int .i64 ((dBelow bs c n).1))))), [(0, some (.box 127 [ro 5 1 eU bs, (CV.lit (.int .i64 (((dBelow bs c n).2.i : Int)))), (CV.lit (.int .i64 ((dBelow bs c n).2.h)))]))], [], []⟩
theorem fn_Below (bs : List Int) (c : Cu) (n : Int) (hc : okCu bs c) : Fn Tryz.prog (c_Below bs c n) := by
  have h0 := dByte_lt bs c
  have h1 := dByte_lt bs (dByte bs c).2
  have h2 := dByte_lt bs (dByte bs (dByte bs c).2).2
  have h3 := dByte_lt bs (dByte bs (dByte bs (dByte bs c).2).2).2
  have k1 := dByte_ok hc
  have k2 := dByte_ok k1
  have k3 := dByte_ok k2
  refine fn_intro tt_ok Tryz.func55 rfl Tryz.call55 Tryz.ntmps55 Tryz.results55 rfl rfl rfl rfl ?_
  intro X ρ0 hb_ hgl_
  dsimp only [c_Below]
  try refine nrm ?_
  repeat' (refine ar_id ?_; first | refine st1 ?_ | (first | ((first | refine ar_region (id := 4) tt_ok (inps := [.call (c_Byte bs c)]) rfl ?_ ?_ | refine ar_region (id := 5) tt_ok (inps := [.call (c_Byte bs c)]) rfl ?_ ?_ | refine ar_region (id := 6) tt_ok (inps := [.call (c_Byte bs (dByte bs c).2)]) rfl ?_ ?_ | refine ar_region (id := 7) tt_ok (inps := [.call (c_Byte bs (dByte bs (dByte bs c).2).2)]) rfl ?_ ?_ | refine ar_region (id := 8) tt_ok (inps := [.call (c_Byte bs (dByte bs (dByte bs (dByte bs c).2).2).2)]) rfl ?_ ?_ | refine ar_region tt_ok (inps := []) rfl ?_ ?_); rotate_left; (try dsimp only [c_Byte]); (try refine nrm ?_); rotate_right) | refine ret3 ?_ | refine end3 ?_) | (refine ar_cond rfl trivial ?_ ?_ <;> intro hc_ <;> (try simp only [isNilI, inB, reduceCtorEq, cds] at hc_) <;> (try (first | contradiction | (exfalso; omega)))) | refine ar_until (And.intro ?_ (wk3 ?_)))
  all_goals (first | refine ar_id ?_ | (try (focus ((try refine nrmO ?_); (repeat' (first | exact True.intro | refine And.intro ?_ ?_)); all_goals (try (intro (hg_ : _ = true); (try simp only [isNilI, inB, reduceCtorEq, cds] at hg_); (repeat' (first | exact True.intro | refine And.intro ?_ ?_)))); all_goals (first | exact ob1 | exact fn_Byte bs _ hc | exact fn_Byte bs _ k1 | exact fn_Byte bs _ k2 | exact fn_Byte bs _ k3 | skip)))))
  all_goals unfold dBelow
  all_goals first
    | (rw [if_pos (by assumption)]; done)
    | (rw [if_neg (by omega), if_pos (by assumption)]; done)
    | (rw [if_neg (by omega), if_neg (by omega)]; done)
def c_Once (bs : List Int) (c : Cu) (n : Int) : CFD := ⟨86, [.one (.box 0 0), (SV.one (.lit (.int .i64 (n))))], [(0, some (.box 127 [ro 5 1 eU bs, (CV.lit (.int .i64 ((c.i : Int)))), (CV.lit (.int .i64 (c.h)))]))], (TV.sv (.one (.lit (.bool ((dBelow bs c n).1 == 0))))), [(0, some (.box 127 [ro 5 1 eU bs, (CV.lit (.int .i64 (((dBelow bs c n).2.i : Int)))), (CV.lit (.int .i64 ((dBelow bs c n).2.h)))]))], [], []⟩
theorem fn_Once (bs : List Int) (c : Cu) (n : Int) (hc : okCu bs c) : Fn Tryz.prog (c_Once bs c n) := by
  refine fn_intro tt_ok Tryz.func86 rfl Tryz.call86 Tryz.ntmps86 Tryz.results86 rfl rfl rfl rfl ?_
  intro X ρ0 hb_ hgl_
  dsimp only [c_Once]
  try refine nrm ?_
  repeat' (refine ar_id ?_; first | refine st1 ?_ | (refine ar_run (id := 1) [.call (c_Below bs c n)] ?_; generalize hQ_ : kont _ _ _ _ = Q_; repeat' (first | (focus ((first | refine as_call3 tt_ok ?_ ?_ | refine as_sure3 tt_ok ?_ ?_ | refine as_cons3 tt_ok ?_ ?_); (try dsimp only [c_Below]); (try refine nrm ?_); rotate_left)) | (subst hQ_; refine as_nil ?_))) | (first | ((first | refine ar_region tt_ok (inps := []) rfl ?_ ?_); rotate_left; (try dsimp only [c_Below]); (try refine nrm ?_); rotate_right) | refine ret3 ?_ | refine end3 ?_) | (refine ar_cond rfl trivial ?_ ?_ <;> intro hc_ <;> (try simp only [isNilI, inB, reduceCtorEq, cds] at hc_) <;> (try (first | contradiction | (exfalso; omega)))) | refine ar_until (And.intro ?_ (wk3 ?_)))
  all_goals (first | refine ar_id ?_ | (try (focus ((try refine nrmO ?_); (repeat' (first | exact True.intro | refine And.intro ?_ ?_)); all_goals (try (intro (hg_ : _ = true); (try simp only [isNilI, inB, reduceCtorEq, cds] at hg_); (repeat' (first | exact True.intro | refine And.intro ?_ ?_)))); all_goals (first | exact ob1 | exact fn_Below bs c n hc | skip)))))
def hNew (bs : List Int) (n : Nat) : Int := (bs.take n).foldl (fun h b => IntKind.i64.wrap (BitVec.ofInt IntKind.i64.bits (h * 131 + IntKind.i64.wrap b + 7) &&& BitVec.ofInt IntKind.i64.bits 1073741823).toNat) (98801 + bs.length)
theorem hNew_lt (bs : List Int) (hl : bs.length ≤ 2097152) (n : Nat) : 0 ≤ hNew bs n ∧ hNew bs n ≤ 1073741823 := by
  have key : ∀ z, 0 ≤ IntKind.i64.wrap ((BitVec.ofInt IntKind.i64.bits z &&& BitVec.ofInt IntKind.i64.bits 1073741823).toNat : Int) ∧ IntKind.i64.wrap ((BitVec.ofInt IntKind.i64.bits z &&& BitVec.ofInt IntKind.i64.bits 1073741823).toNat : Int) ≤ 1073741823 := by
    intro z
    have h : (BitVec.ofInt IntKind.i64.bits z &&& BitVec.ofInt IntKind.i64.bits 1073741823).toNat ≤ 1073741823 := by
      rw [BitVec.toNat_and]
      exact Nat.le_trans Nat.and_le_right (by decide)
    rw [IntWalk.i64_in _ ⟨by omega, by omega⟩]
    omega
  have : ∀ (l : List Int) (a : Int), (0 ≤ a ∧ a ≤ 1073741823) → 0 ≤ l.foldl (fun h b => IntKind.i64.wrap (BitVec.ofInt IntKind.i64.bits (h * 131 + IntKind.i64.wrap b + 7) &&& BitVec.ofInt IntKind.i64.bits 1073741823).toNat) a ∧ l.foldl (fun h b => IntKind.i64.wrap (BitVec.ofInt IntKind.i64.bits (h * 131 + IntKind.i64.wrap b + 7) &&& BitVec.ofInt IntKind.i64.bits 1073741823).toNat) a ≤ 1073741823 := by
    intro l
    induction l with
    | nil => intro a h; exact h
    | cons b l ih => intro a _; exact ih _ (key _)
  exact this _ _ ⟨by omega, by omega⟩
theorem hNew_step (bs : List Int) (n : Nat) (h : n < bs.length) : hNew bs (n + 1) = IntKind.i64.wrap (BitVec.ofInt IntKind.i64.bits (hNew bs n * 131 + IntKind.i64.wrap (bs.getD n 0) + 7) &&& BitVec.ofInt IntKind.i64.bits 1073741823).toNat := by
  unfold hNew
  rw [take_getD bs 0 h, List.foldl_append]
  rfl
def dNew (bs : List Int) : Cu := ⟨0, hNew bs (min bs.length 4000)⟩
theorem dNew_ok {bs : List Int} (hl : bs.length ≤ 2097152) (hb : ∀ x ∈ bs, 0 ≤ x ∧ x ≤ 255) : okCu bs (dNew bs) := ⟨hl, hb, Nat.zero_le _⟩
def c_NewC (bs : List Int) : CFD := ⟨41, [.one (ro 5 1 eU bs)], [], .sv (.one (.box 0 0)), [(0, some (.box 127 [ro 5 1 eU bs, (CV.lit (.int .i64 (((dNew bs).i : Int)))), (CV.lit (.int .i64 ((dNew bs).h)))]))], [0], []⟩
theorem fn_NewC (bs : List Int) (hl : bs.length ≤ 2097152) (hb : ∀ x ∈ bs, 0 ≤ x ∧ x ≤ 255) : Fn Tryz.prog (c_NewC bs) := by
  refine fn_intro tt_ok Tryz.func41 rfl Tryz.call41 Tryz.ntmps41 Tryz.results41 rfl rfl rfl rfl ?_
  intro X ρ0 hb_ hgl_
  dsimp only [c_NewC]
  try refine nrm ?_
  repeat' (refine ar_id ?_; first | refine st1 ?_ | (first | ((first | refine ar_region tt_ok (inps := []) rfl ?_ ?_); rotate_left; (try refine nrm ?_); rotate_right) | refine ret3 ?_ | refine end3 ?_) | (refine ar_cond rfl trivial ?_ ?_ <;> intro hc_ <;> (try simp only [isNilI, inB, reduceCtorEq, cds] at hc_) <;> (try (first | contradiction | (exfalso; omega)))) | refine ar_until (And.intro ?_ (wk3 ?_)))
  all_goals (first | refine ar_id ?_ | (try (focus ((try refine nrmO ?_); (repeat' (first | exact True.intro | refine And.intro ?_ ?_)); all_goals (try (intro (hg_ : _ = true); (try simp only [isNilI, inB, reduceCtorEq, cds] at hg_); (repeat' (first | exact True.intro | refine And.intro ?_ ?_)))); all_goals (first | exact ob1 | skip)))))
  refine ar_keep 29 (by dsimp only [keepS] <;> exact rfl) ?_
  refine ar_forM (min bs.length 4000) (fun i => True) (fun i => [(4, (TV.sv (.one (.lit (.int .i64 (i)))))), (3, (TV.sv (.one (.lit (.int .i64 (hNew bs i))))))]) (fun i => []) ?_ ?_ ?_
  rotate_left
  · first | trivial | simp
  (dsimp only [rnCap, capSVs, Int.toNat_natCast, ro, Nat.reduceAdd, Nat.reduceMul, Nat.zero_add, List.map, putT, app, wrapG, gOb, argT, keys, slotOf, dropped, gAnd, wB, rnT, rnS, rnC, rnCs, rnSs, rnM, rnB, rnN, rn, lk, St.over, ded, delL, keepT, menT, menSs, menS, menCs, menC, hasN, resT, SV.cells]; refine wk3 ?_; (focus ((try refine nrmO ?_); (repeat' (first | exact True.intro | refine And.intro ?_ ?_)); all_goals (try (intro (hg_ : _ = true); (try simp only [isNilI, inB, reduceCtorEq, cds] at hg_); (repeat' (first | exact True.intro | refine And.intro ?_ ?_)))); all_goals (first | exact ob1 | exact rfl | skip))))
  rotate_right
  intro i hi_ hiI_
  dsimp only [rnCap, capSVs, Int.toNat_natCast, ro, Nat.reduceAdd, Nat.reduceMul, Nat.zero_add, List.map, putT, app, wrapG, gOb, argT, keys, slotOf, dropped, gAnd, wB, rnT, rnS, rnC, rnCs, rnSs, rnM, rnB, rnN, rn, lk, St.over, ded, delL, keepT, menT, menSs, menS, menCs, menC, hasN, resT, SV.cells]
  repeat' (refine ar_id ?_; first | refine st1 ?_ | (first | ((first | refine ar_region (id := 5) tt_ok (inps := [.elem (eU (bs.getD i 0))]) rfl ?_ ?_ | refine ar_region tt_ok (inps := []) rfl ?_ ?_); rotate_left; (try refine nrm ?_); rotate_right) | refine ret3 ?_ | refine end3 ?_) | (refine ar_cond rfl trivial ?_ ?_ <;> intro hc_ <;> (try simp only [isNilI, inB, reduceCtorEq, cds] at hc_) <;> (try (first | contradiction | (exfalso; omega)))) | refine ar_until (And.intro ?_ (wk3 ?_)))
  all_goals (first | refine ar_id ?_ | (try (focus ((try refine nrmO ?_); (repeat' (first | exact True.intro | refine And.intro ?_ ?_)); all_goals (try (intro (hg_ : _ = true); (try simp only [isNilI, inB, reduceCtorEq, cds] at hg_); (repeat' (first | exact True.intro | refine And.intro ?_ ?_)))); all_goals (first | exact ob1 | skip)))))
  · have := hNew_lt bs hl i; exact i64_ok (by omega) (by omega)
  · have := hNew_lt bs hl i
    have h2 := hb _ (getD_in (l := bs) (i := i) (d := 0) (by omega))
    rw [show IntKind.i64.wrap (bs.getD i 0) = bs.getD i 0 from IntWalk.i64_in _ ⟨by omega, by omega⟩]
    exact i64_ok (by omega) (by omega)
  · have := hNew_lt bs hl i
    have h2 := hb _ (getD_in (l := bs) (i := i) (d := 0) (by omega))
    rw [show IntKind.i64.wrap (bs.getD i 0) = bs.getD i 0 from IntWalk.i64_in _ ⟨by omega, by omega⟩]
    exact i64_ok (by omega) (by omega)
  · rw [hNew_step bs i (by omega)]
  · rfl
  · unfold dNew
    rw [show i = min bs.length 4000 by omega]
def plC (bs : List Int) : Nat → Cu
  | 0 => dNew bs
  | n + 1 => (dBelow bs (plC bs n) 10000).2
def plV (bs : List Int) (n : Nat) : Int := (dBelow bs (plC bs n) 10000).1
theorem plC_ok {bs : List Int} (hl : bs.length ≤ 2097152) (hb : ∀ x ∈ bs, 0 ≤ x ∧ x ≤ 255) : ∀ n, okCu bs (plC bs n)
  | 0 => dNew_ok hl hb
  | n + 1 => dBelow_ok _ (plC_ok hl hb n)
theorem plV_lt (bs : List Int) (n : Nat) : 0 ≤ plV bs n ∧ plV bs n < 10000 := dBelow_lt bs _ _ (by decide)
def places (bs : List Int) : List Int := (List.range 12).map (plV bs)
def c_Places (bs : List Int) : CFD := ⟨20, [.one (ro 5 1 eU bs)], [], .sv (.one (.hd 0)), [(0, some (.row 3 1 ((places bs).map eI)))], [0], []⟩
theorem fn_Places (bs : List Int) (hl : bs.length ≤ 2097152) (hb : ∀ x ∈ bs, 0 ≤ x ∧ x ≤ 255) : Fn Tryz.prog (c_Places bs) := by
  refine fn_intro tt_ok Tryz.func20 rfl Tryz.call20 Tryz.ntmps20 Tryz.results20 rfl rfl rfl rfl ?_
  intro X ρ0 hb_ hgl_
  dsimp only [c_Places]
  try refine nrm ?_
  repeat' (refine ar_id ?_; first | refine st1 ?_ | (first | ((first | refine ar_region (id := 1) tt_ok (inps := [.call (c_NewC bs)]) rfl ?_ ?_ | refine ar_region tt_ok (inps := []) rfl ?_ ?_); rotate_left; (try dsimp only [c_NewC]); (try refine nrm ?_); rotate_right) | refine ret3 ?_ | refine end3 ?_) | (refine ar_cond rfl trivial ?_ ?_ <;> intro hc_ <;> (try simp only [isNilI, inB, reduceCtorEq, cds] at hc_) <;> (try (first | contradiction | (exfalso; omega)))) | refine ar_until (And.intro ?_ (wk3 ?_)))
  all_goals (first | refine ar_id ?_ | (try (focus ((try refine nrmO ?_); (repeat' (first | exact True.intro | refine And.intro ?_ ?_)); all_goals (try (intro (hg_ : _ = true); (try simp only [isNilI, inB, reduceCtorEq, cds] at hg_); (repeat' (first | exact True.intro | refine And.intro ?_ ?_)))); all_goals (first | exact ob1 | exact fn_NewC bs hl hb | skip)))))
  refine ar_keep 61 (by dsimp only [keepS] <;> exact rfl) ?_
  refine ar_forM (12) (fun i => True) (fun i => [(5, (TV.sv (.one (.lit (.int .i64 (i)))))), (4, (TV.sv (.one (.hd 8))))]) (fun i => [(8, some (.row 3 1 (((List.range i).map (plV bs)).map eI))), (8000, some (.box 127 [ro 5 1 eU bs, (CV.lit (.int .i64 (((plC bs i).i : Int)))), (CV.lit (.int .i64 ((plC bs i).h)))]))]) ?_ ?_ ?_
  rotate_left
  · first | trivial | simp
  (dsimp only [rnCap, capSVs, Int.toNat_natCast, ro, Nat.reduceAdd, Nat.reduceMul, Nat.zero_add, List.map, putT, app, wrapG, gOb, argT, keys, slotOf, dropped, gAnd, wB, rnT, rnS, rnC, rnCs, rnSs, rnM, rnB, rnN, rn, lk, St.over, ded, delL, keepT, menT, menSs, menS, menCs, menC, hasN, resT, SV.cells]; refine wk3 ?_; (focus ((try refine nrmO ?_); (repeat' (first | exact True.intro | refine And.intro ?_ ?_)); all_goals (try (intro (hg_ : _ = true); (try simp only [isNilI, inB, reduceCtorEq, cds] at hg_); (repeat' (first | exact True.intro | refine And.intro ?_ ?_)))); all_goals (first | exact ob1 | exact rfl | skip))))
  rotate_right
  intro i hi_ hiI_
  dsimp only [rnCap, capSVs, Int.toNat_natCast, ro, Nat.reduceAdd, Nat.reduceMul, Nat.zero_add, List.map, putT, app, wrapG, gOb, argT, keys, slotOf, dropped, gAnd, wB, rnT, rnS, rnC, rnCs, rnSs, rnM, rnB, rnN, rn, lk, St.over, ded, delL, keepT, menT, menSs, menS, menCs, menC, hasN, resT, SV.cells]
  repeat' (refine ar_id ?_; first | refine st1 ?_ | (refine ar_run (id := 6) [.call (c_Below bs (plC bs i) 10000)] ?_; generalize hQ_ : kont _ _ _ _ = Q_; repeat' (first | (focus ((first | refine as_call3 tt_ok ?_ ?_ | refine as_sure3 tt_ok ?_ ?_ | refine as_cons3 tt_ok ?_ ?_); (try dsimp only [c_Below]); (try refine nrm ?_); rotate_left)) | (subst hQ_; refine as_nil ?_))) | (first | ((first | refine ar_region tt_ok (inps := []) rfl ?_ ?_); rotate_left; (try dsimp only [c_Below]); (try refine nrm ?_); rotate_right) | refine ret3 ?_ | refine end3 ?_) | (refine ar_cond rfl trivial ?_ ?_ <;> intro hc_ <;> (try simp only [isNilI, inB, reduceCtorEq, cds] at hc_) <;> (try (first | contradiction | (exfalso; omega)))) | refine ar_until (And.intro ?_ (wk3 ?_)))
  all_goals (first | refine ar_id ?_ | (try (focus ((try refine nrmO ?_); (repeat' (first | exact True.intro | refine And.intro ?_ ?_)); all_goals (try (intro (hg_ : _ = true); (try simp only [isNilI, inB, reduceCtorEq, cds] at hg_); (repeat' (first | exact True.intro | refine And.intro ?_ ?_)))); all_goals (first | exact ob1 | exact fn_Below bs _ _ (plC_ok hl hb i) | skip)))))
  · simp only [List.length_map, List.length_range, List.length_cons, List.length_nil]; omega
  · rw [List.range_succ, List.map_append, List.map_append, app_eq]; rfl
  all_goals first | rfl | (rw [show i = 12 by omega]; rfl)
end Eng
end Go.Proofs.YtlkkiopjknbomaaGreatDoor
namespace Go.Proofs.YtlkkiopjknbomaaGreatDoor
open Go.RowKit
set_option linter.unusedVariables false
set_option linter.unusedSimpArgs false
set_option maxRecDepth 100000
namespace Eng
open Tr
/-- a slice of bytes that came in -/
def IsRow (w : World) (a : Option Addr) (len cap : Nat) (zs : List Int) : Prop :=
  (a = none ∧ len = 0 ∧ cap = 0 ∧ zs = []) ∨
  ∃ x, a = some x ∧ len ≤ cap ∧ cap ≤ maxLen ∧ zs.length = cap ∧ (∀ i, i < zs.length → w.cell? (x.add i) = some (.int .u8 (zs.getD i 0))) ∧ ∀ n ∈ zs, (Lit.int .u8 n).wf = true
theorem lt_of_cell {w : World} {g o : Nat} {v : Value} (h : w.cell? ⟨g, o, none⟩ = some v) : g < w.heap.size := by
  rcases Nat.lt_or_ge g w.heap.size with h' | h'
  · exact h'
  · simp [World.cell?, Array.getElem?_eq_none h'] at h
theorem own_u8 {w : World} : ∀ l : List Int, RdO w (· < w.heap.size) (D.cat (l.map eU)) (l.map (Value.int .u8))
  | [] => rfl
  | x :: l => ⟨_, rfl, own_u8 l⟩
/-- the bytes that come in, as0 the engine reads them -/
theorem arg_bytes {w : World} {a : Option Addr} {len cap : Nat} {zs : List Int} (h : IsRow w a len cap zs) : ∃ bs : List Int, bs.length = len ∧ (∀ x ∈ bs, 0 ≤ x ∧ x ≤ 255) ∧ SRel (cxOf w) noEnv (.one (ro 5 1 eU bs)) (.slice a len cap) := by
  rcases h with ⟨rfl, rfl, rfl, rfl⟩ | ⟨x, rfl, h1, h2, h3, h4, h5⟩
  · exact ⟨[], rfl, (fun x hx => (nomatch hx)), _, [], rfl, rfl, .inl ⟨⟨none, 0, rfl, fun _ => rfl⟩, rfl, rfl⟩⟩
  · refine ⟨zs.take len, by rw [List.length_take]; omega, fun y hy => ?_, ?_⟩
    · have := h5 y (List.mem_of_mem_take hy)
      simp [Lit.wf] at this
      have hm : IntKind.u8.min = 0 := rfl
      have hM : IntKind.u8.max = 255 := rfl
      omega
    · by_cases hc : cap = 0
      · have hl : len = 0 := by omega
        subst hl hc
        exact ⟨_, [], rfl, rfl, .inl ⟨⟨some x, 0, rfl, fun _ => rfl⟩, rfl, rfl⟩⟩
      · have h0 := h4 0 (by omega)
        have ha : x.add 0 = x := by unfold Addr.add; rw [if_pos rfl]
        rw [ha] at h0
        have e := addr_of_cell h0
        have hlen : (zs.take len).length = len := by rw [List.length_take]; omega
        refine ⟨_, [], rfl, rfl, .inr ⟨x.block, x.off, cap, (zs.take len).map (Value.int .u8), ?_, ?_, h2, ?_, fun j hj => ?_, fun hp => ?_, own_u8 _⟩⟩
        · rw [← e, hlen]
        · rw [hlen]; exact h1
        · rw [List.length_map, Nat.mul_one]
        · rw [hlen, Nat.mul_one] at hj
          have h6 := h4 j (by omega)
          rw [e, Addr.add_lit] at h6
          show w.cell? _ = _
          rw [h6, List.getElem?_map, List.getElem?_take, if_pos hj, List.getElem?_eq_getElem (by omega)]
          simp [List.getD_eq_getElem?_getD, List.getElem?_eq_getElem (show j < zs.length by omega)]
        · have h6 := h4 0 (by omega)
          rw [ha, e] at h6
          exact lt_of_cell h6
def c_big (bs : List Int) : CFD := ⟨8, [.one (ro 5 1 eU bs)], [], (TV.sv (.one (.lit (.bool (decide (1048576 < (bs.length : Int))))))), [], [], []⟩
theorem fn_big (bs : List Int) : Fn Tryz.prog (c_big bs) := by
  refine fn_intro tt_ok Tryz.func8 rfl Tryz.call8 Tryz.ntmps8 Tryz.results8 rfl rfl rfl rfl ?_
  intro X ρ0 hb_ hgl_
  dsimp only [c_big]
  try refine nrm ?_
  repeat' (refine ar_id ?_; first | refine st1 ?_ | (first | ((first | refine ar_region tt_ok (inps := []) rfl ?_ ?_); rotate_left; (try refine nrm ?_); rotate_right) | refine ret3 ?_ | refine end3 ?_) | (refine ar_cond rfl trivial ?_ ?_ <;> intro hc_ <;> (try simp only [isNilI, inB, reduceCtorEq, cds] at hc_) <;> (try (first | contradiction | (exfalso; omega)))) | refine ar_until (And.intro ?_ (wk3 ?_)))
  all_goals (first | refine ar_id ?_ | (try (focus ((try refine nrmO ?_); (repeat' (first | exact True.intro | refine And.intro ?_ ?_)); all_goals (try (intro (hg_ : _ = true); (try simp only [isNilI, inB, reduceCtorEq, cds] at hg_); (repeat' (first | exact True.intro | refine And.intro ?_ ?_)))); all_goals (first | exact ob1 | skip)))))
end Eng
end Go.Proofs.YtlkkiopjknbomaaGreatDoor
namespace Go.Proofs.YtlkkiopjknbomaaGreatDoor
open Go.RowKit
set_option linter.unusedVariables false
set_option linter.unusedSimpArgs false
set_option maxRecDepth 100000
namespace Eng
open Tr
section
variable {σ : Type} (test : Nat → σ → Bool × σ) (step : Nat → σ → σ)
end
/-- the same contracts, of results with a name -/
def c_BelowR (bs : List Int) (c : Cu) (n : Int) (r : Int × Cu) : CFD := ⟨55, [.one (.box 0 0), (SV.one (.lit (.int .i64 (n))))], [(0, some (.box 127 [ro 5 1 eU bs, (CV.lit (.int .i64 (((c).i : Int)))), (CV.lit (.int .i64 ((c).h)))]))], (TV.sv (.one (.lit (.int .i64 (r.1))))), [(0, some (.box 127 [ro 5 1 eU bs, (CV.lit (.int .i64 (((r.2).i : Int)))), (CV.lit (.int .i64 ((r.2).h)))]))], [], []⟩
theorem fn_BelowR (bs : List Int) (c : Cu) (n : Int) (r : Int × Cu) (hc : okCu bs c) (h : dBelow bs c n = r) : Fn Tryz.prog (c_BelowR bs c n r) := h ▸ fn_Below bs c n hc
def c_OnceR (bs : List Int) (c : Cu) (n : Int) (r : Int × Cu) : CFD := ⟨86, [.one (.box 0 0), (SV.one (.lit (.int .i64 (n))))], [(0, some (.box 127 [ro 5 1 eU bs, (CV.lit (.int .i64 (((c).i : Int)))), (CV.lit (.int .i64 ((c).h)))]))], (TV.sv (.one (.lit (.bool (r.1 == 0))))), [(0, some (.box 127 [ro 5 1 eU bs, (CV.lit (.int .i64 (((r.2).i : Int)))), (CV.lit (.int .i64 ((r.2).h)))]))], [], []⟩
theorem fn_OnceR (bs : List Int) (c : Cu) (n : Int) (r : Int × Cu) (hc : okCu bs c) (h : dBelow bs c n = r) : Fn Tryz.prog (c_OnceR bs c n r) := h ▸ fn_Once bs c n hc
end Eng
end Go.Proofs.YtlkkiopjknbomaaGreatDoor
namespace Go.Proofs.YtlkkiopjknbomaaGreatDoor
namespace Tr
theorem countP_take {α : Type} (p : α → Bool) (l : List α) (i : Nat) (x : α) (h : l[i]? = some x) : (l.take (i + 1)).countP p = (l.take i).countP p + (if p x then 1 else 0) := by
  rw [List.take_add_one, h, List.countP_append]
  simp [List.countP_cons]
end Tr
end Go.Proofs.YtlkkiopjknbomaaGreatDoor
namespace Go.Proofs.YtlkkiopjknbomaaGreatDoor
open Go.RowKit
set_option linter.unusedVariables false
namespace Tr
def okV (u : Bool) (v : Int) : Prop := (0 ≤ v ∧ v ≤ 999) ∧ (u = true ∨ v = 0)
instance (u : Bool) (v : Int) : Decidable (okV u v) := by unfold okV; infer_instance
def okRow (u : Bool) (r : List Int) : Prop := r.length = 16 ∧ ∀ v ∈ r, okV u v
instance (u : Bool) (r : List Int) : Decidable (okRow u r) := by unfold okRow; infer_instance
def okF (f : GFrames) : Prop := (1 ≤ f.Cells.length ∧ f.Cells.length ≤ 32) ∧ f.Used.length = f.Cells.length ∧ ∀ p ∈ f.Cells.zip f.Used, okRow p.2 p.1
instance (f : GFrames) : Decidable (okF f) := by unfold okF; infer_instance
def pFramesOk (f : GFrames) : Bool := decide (okF f)
theorem zip_at {α β : Type} {l : List α} {m : List β} {i : Nat} {x : α} {y : β} (hx : l[i]? = some x) (hy : m[i]? = some y) : (l.zip m)[i]? = some (x, y) := List.getElem?_zip_eq_some.2 ⟨hx, hy⟩
/-- the first frame that is not used -/
def freeAt : Nat → List Bool → Int
  | _, [] => -1
  | i, u :: l => if u then freeAt (i + 1) l else (i : Int)
def pFree (f : GFrames) : Int := freeAt 0 f.Used
theorem freeAt_skip : ∀ (i : Nat) (a b : List Bool), (∀ u ∈ a, u = true) → freeAt i (a ++ b) = freeAt (i + a.length) b
  | _, [], _, _ => rfl
  | i, u :: a, b, h => by
    have hu := h u (by simp)
    subst hu
    show freeAt (i + 1) (a ++ b) = _
    rw [freeAt_skip (i + 1) a b (fun v hv => h v (by simp [hv])), List.length_cons, show i + 1 + a.length = i + (a.length + 1) by omega]
theorem freeAt_hit (l : List Bool) (i : Nat) (h : l[i]? = some false) (ha : ∀ u ∈ l.take i, u = true) : freeAt 0 l = (i : Int) := by
  have hi : i < l.length := (List.getElem?_eq_some_iff.1 h).1
  have e : l = l.take i ++ (false :: l.drop (i + 1)) := by
    have h1 : l.drop i = false :: l.drop (i + 1) := by
      rw [List.drop_eq_getElem_cons hi]
      rw [List.getElem?_eq_getElem hi] at h
      rw [Option.some.inj h]
    rw [← h1, List.take_append_drop]
  rw [e, freeAt_skip 0 _ _ ha, List.length_take, Nat.min_eq_left (by omega), Nat.zero_add]
  rfl
theorem freeAt_none (l : List Bool) (ha : ∀ u ∈ l, u = true) : freeAt 0 l = -1 := by
  have := freeAt_skip 0 l [] ha
  rw [List.append_nil] at this
  rw [this]; rfl
/-- frame i of valid frames is used -/
def isUsed (f : GFrames) (i : Int) : Prop := okF f ∧ (0 ≤ i ∧ i < f.Used.length) ∧ f.Used[i.toNat]? = some true
instance (f : GFrames) (i : Int) : Decidable (isUsed f i) := by unfold isUsed; infer_instance
def pUsedFrames (f : GFrames) : Int := if okF f then ((f.Used.countP (fun u => u) : Nat) : Int) else 0
def pFrameGive (f : GFrames) (i : Int) : GFrames × Bool := if isUsed f i then (⟨f.Cells.set i.toNat (List.replicate 16 0), f.Used.set i.toNat false⟩, true) else (f, false)
def pFramesNew (n : Int) : GFrames × Bool := if 1 ≤ n ∧ n ≤ 32 then (⟨List.replicate n.toNat (List.replicate 16 0), List.replicate n.toNat false⟩, true) else (⟨[], []⟩, false)
end Tr
end Go.Proofs.YtlkkiopjknbomaaGreatDoor
namespace Go.Proofs.YtlkkiopjknbomaaGreatDoor
open Go.RowKit
set_option linter.unusedVariables false
set_option linter.unusedSimpArgs false
set_option maxRecDepth 100000
namespace Eng
open Tr
def c_Copy5 (f : GFrames) : CFD := ⟨141, [.agg [ro 33 1 eIntS f.Cells, ro 4 1 Tr.eB f.Used]], [], .sv (.agg [.hd 0, .hd 1]),
  [(0, some (.row 33 1 (f.Cells.map eIntS))), (1, some (.row 4 1 (f.Used.map Tr.eB)))], [0, 1], []⟩
theorem fn_Copy5 (f : GFrames) (hl : f.Cells.length ≤ 1048576) (hu : f.Used.length ≤ 1048576) (hc : ∀ r ∈ f.Cells, r.length ≤ 1048576) : Fn Tryz.prog (c_Copy5 f) := by
  refine fn_intro tt_ok Tryz.func141 rfl Tryz.call141 Tryz.ntmps141 Tryz.results141 rfl rfl rfl rfl ?_
  intro X ρ0 hb_ hgl_
  dsimp only [c_Copy5]
  try refine nrm ?_
  repeat' (refine ar_id ?_; first | refine st1 ?_ | (first | ((first | refine ar_region (id := 1) tt_ok (inps := [.elems (f.Used.map Tr.eB)]) rfl ?_ ?_ | refine ar_region tt_ok (inps := []) rfl ?_ ?_); rotate_left; (try refine nrm ?_); rotate_right) | refine ret3 ?_ | refine end3 ?_) | (refine ar_cond rfl trivial ?_ ?_ <;> intro hc_ <;> (try simp only [isNilI, inB, reduceCtorEq, cds] at hc_) <;> (try (first | contradiction | (exfalso; omega)))) | refine ar_until (And.intro ?_ (wk3 ?_)))
  all_goals (first | refine ar_id ?_ | (try (focus ((try refine nrmO ?_); (repeat' (first | exact True.intro | refine And.intro ?_ ?_)); all_goals (try (intro (hg_ : _ = true); (try simp only [isNilI, inB, reduceCtorEq, cds] at hg_); (repeat' (first | exact True.intro | refine And.intro ?_ ?_)))); all_goals (first | exact ob1 | exact flat_map' f.Used (fun x => ⟨rfl, rfl, trivial⟩) | exact (by simp only [lns]; omega) | exact (by simp) | skip)))))
  refine ar_nilB (b := 3) (j := 0) (T := 33) (q := 1) (r := 90000) rfl rfl rfl rfl rfl ?_
  try dsimp only [putL]
  refine ar_keep 31 (by dsimp only [keepS] <;> exact rfl) ?_
  refine ar_forM (f.Cells.length) (fun i => True) (fun i => [(4, (TV.sv (.one (.lit (.int .i64 (i))))))]) (fun i => [(3, some (.box 27 [.hd 90000, .hd 8])), (90000, some (.row 33 1 ((f.Cells.take i).map eIntS)))]) ?_ ?_ ?_
  rotate_left
  · first | trivial | simp
  (dsimp only [rnCap, capSVs, Int.toNat_natCast, ro, Nat.reduceAdd, Nat.reduceMul, Nat.zero_add, List.map, putT, app, wrapG, gOb, argT, keys, slotOf, dropped, gAnd, wB, rnT, rnS, rnC, rnCs, rnSs, rnM, rnB, rnN, rn, lk, St.over, ded, delL, keepT, menT, menSs, menS, menCs, menC, hasN, resT, SV.cells]; refine wk3 ?_; (focus ((try refine nrmO ?_); (repeat' (first | exact True.intro | refine And.intro ?_ ?_)); all_goals (try (intro (hg_ : _ = true); (try simp only [isNilI, inB, reduceCtorEq, cds] at hg_); (repeat' (first | exact True.intro | refine And.intro ?_ ?_)))); all_goals (first | exact ob1 | exact rfl | skip))))
  rotate_right
  intro i hi_ hiI_
  dsimp only [rnCap, capSVs, Int.toNat_natCast, ro, Nat.reduceAdd, Nat.reduceMul, Nat.zero_add, List.map, putT, app, wrapG, gOb, argT, keys, slotOf, dropped, gAnd, wB, rnT, rnS, rnC, rnCs, rnSs, rnM, rnB, rnN, rn, lk, St.over, ded, delL, keepT, menT, menSs, menS, menCs, menC, hasN, resT, SV.cells]
  repeat' (refine ar_id ?_; first | refine st1 ?_ | (first | ((first | refine ar_region tt_ok (inps := []) rfl ?_ ?_); rotate_left; (try refine nrm ?_); rotate_right) | refine ret3 ?_ | refine end3 ?_) | (refine ar_cond rfl trivial ?_ ?_ <;> intro hc_ <;> (try simp only [isNilI, inB, reduceCtorEq, cds] at hc_) <;> (try (first | contradiction | (exfalso; omega)))) | refine ar_until (And.intro ?_ (wk3 ?_)))
  all_goals (first | refine ar_id ?_ | (try (focus ((try refine nrmO ?_); (repeat' (first | exact True.intro | refine And.intro ?_ ?_)); all_goals (try (intro (hg_ : _ = true); (try simp only [isNilI, inB, reduceCtorEq, cds] at hg_); (repeat' (first | exact True.intro | refine And.intro ?_ ?_)))); all_goals (first | exact ob1 | skip)))))
  · have hi : f.Cells.getD i [] ∈ f.Cells := by rw [List.getD_eq_getElem?_getD, List.getElem?_eq_getElem (by omega)]; exact List.getElem_mem _
    refine ar_draw (id := 5) (inps := [ .elem (eIntS (f.Cells.getD i [])), .elems ((f.Cells.getD i []).map eI)]) tt_ok (by kernel_rfl) rfl rfl (by kernel_rfl) rfl rfl rfl rfl ?_ ?_
    rotate_left
    (try refine nrm ?_)
    repeat' (refine ar_id ?_; first | refine st1 ?_ | (first | ((first | refine ar_region tt_ok (inps := []) rfl ?_ ?_); rotate_left; (try refine nrm ?_); rotate_right) | refine ret3 ?_ | refine end3 ?_) | (refine ar_cond rfl trivial ?_ ?_ <;> intro hc_ <;> (try simp only [isNilI, inB, reduceCtorEq, cds] at hc_) <;> (try (first | contradiction | (exfalso; omega)))) | refine ar_until (And.intro ?_ (wk3 ?_)))
    all_goals (first | refine ar_id ?_ | (try (focus ((try refine nrmO ?_); (repeat' (first | exact True.intro | refine And.intro ?_ ?_)); all_goals (try (intro (hg_ : _ = true); (try simp only [isNilI, inB, reduceCtorEq, cds] at hg_); (repeat' (first | exact True.intro | refine And.intro ?_ ?_)))); all_goals (first | exact ob1 | skip)))))
    all_goals (try (focus ((try refine nrmO ?_); (repeat' (first | exact True.intro | refine And.intro ?_ ?_)); all_goals (try (intro (hg_ : _ = true); (try simp only [isNilI, inB, reduceCtorEq, cds] at hg_); (repeat' (first | exact True.intro | refine And.intro ?_ ?_)))); all_goals (first | exact ob1 | exact flat_map' (f.Cells.getD i []) (fun x => ⟨rfl, rfl, trivial⟩) | exact (by have := hc _ hi; simp only [lns]; omega) | skip))))
    · rw [take_getD _ [] (by omega), List.map_append, app_eq]; rfl
  · rw [List.take_of_length_le (by omega)]
def c_Ok5 (f : GFrames) : CFD := ⟨54, [.agg [ro 33 1 eIntS f.Cells, ro 4 1 Tr.eB f.Used]], [], (TV.sv (.one (.lit (.bool (pFramesOk f))))), [], [], []⟩
theorem zip_take' {α β : Type} {l : List α} {m : List β} {i : Nat} {a : α} {b : β} (h1 : i < l.length) (h2 : i < m.length) : (l.zip m).getD i (a, b) = (l.getD i a, m.getD i b) := by
  have := zip_at (getD_at (x := a) h1) (getD_at (x := b) h2)
  rw [List.getD_eq_getElem?_getD, this]
  rfl
theorem fn_Ok5 (f : GFrames) (hl : f.Cells.length ≤ 1048576) (hu : f.Used.length ≤ 1048576) (hc : ∀ r ∈ f.Cells, r.length ≤ 1048576) : Fn Tryz.prog (c_Ok5 f) := by
  refine fn_intro tt_ok Tryz.func54 rfl Tryz.call54 Tryz.ntmps54 Tryz.results54 rfl rfl rfl rfl ?_
  intro X ρ0 hb_ hgl_
  dsimp only [c_Ok5]
  try refine nrm ?_
  repeat' (refine ar_id ?_; first | refine st1 ?_ | (first | ((first | refine ar_region (id := 1) tt_ok (inps := [.call (c_In f.Cells.length 1 32)]) rfl ?_ ?_ | refine ar_region tt_ok (inps := []) rfl ?_ ?_); rotate_left; (try dsimp only [c_In]); (try refine nrm ?_); rotate_right) | refine ret3 ?_ | refine end3 ?_) | (refine ar_cond rfl trivial ?_ ?_ <;> intro hc_ <;> (try simp only [isNilI, inB, reduceCtorEq, cds] at hc_) <;> (try (first | contradiction | (exfalso; omega)))) | refine ar_until (And.intro ?_ (wk3 ?_)))
  all_goals (first | refine ar_id ?_ | (try (focus ((try refine nrmO ?_); (repeat' (first | exact True.intro | refine And.intro ?_ ?_)); all_goals (try (intro (hg_ : _ = true); (try simp only [isNilI, inB, reduceCtorEq, cds] at hg_); (repeat' (first | exact True.intro | refine And.intro ?_ ?_)))); all_goals (first | exact ob1 | exact fn_In _ _ _ | skip)))))
  · exact bf fun h => by have := h.1; have := h.2.1; omega
  have hlen := hc_
  refine ar_keep 63 (by dsimp only [keepS] <;> exact rfl) ?_
  refine ar_forM (f.Cells.length) (fun i => ∀ p ∈ (f.Cells.zip f.Used).take i, okRow p.2 p.1) (fun i => [(3, (TV.sv (.one (.lit (.int .i64 (i))))))]) (fun i => []) ?_ ?_ ?_
  rotate_left
  · first | trivial | simp
  (dsimp only [rnCap, capSVs, Int.toNat_natCast, ro, Nat.reduceAdd, Nat.reduceMul, Nat.zero_add, List.map, putT, app, wrapG, gOb, argT, keys, slotOf, dropped, gAnd, wB, rnT, rnS, rnC, rnCs, rnSs, rnM, rnB, rnN, rn, lk, St.over, ded, delL, keepT, menT, menSs, menS, menCs, menC, hasN, resT, SV.cells]; refine wk3 ?_; (focus ((try refine nrmO ?_); (repeat' (first | exact True.intro | refine And.intro ?_ ?_)); all_goals (try (intro (hg_ : _ = true); (try simp only [isNilI, inB, reduceCtorEq, cds] at hg_); (repeat' (first | exact True.intro | refine And.intro ?_ ?_)))); all_goals (first | exact ob1 | exact rfl | skip))))
  rotate_right
  intro i hi_ hiI_
  dsimp only [rnCap, capSVs, Int.toNat_natCast, ro, Nat.reduceAdd, Nat.reduceMul, Nat.zero_add, List.map, putT, app, wrapG, gOb, argT, keys, slotOf, dropped, gAnd, wB, rnT, rnS, rnC, rnCs, rnSs, rnM, rnB, rnN, rn, lk, St.over, ded, delL, keepT, menT, menSs, menS, menCs, menC, hasN, resT, SV.cells]
  repeat' (refine ar_id ?_; first | refine st1 ?_ | (first | ((first | refine ar_region (id := 6) tt_ok (inps := [.elem (eIntS (f.Cells.getD i []))]) rfl ?_ ?_ | refine ar_region tt_ok (inps := []) rfl ?_ ?_); rotate_left; (try refine nrm ?_); rotate_right) | refine ret3 ?_ | refine end3 ?_) | (refine ar_cond rfl trivial ?_ ?_ <;> intro hc_ <;> (try simp only [isNilI, inB, reduceCtorEq, cds] at hc_) <;> (try (first | contradiction | (exfalso; omega)))) | refine ar_until (And.intro ?_ (wk3 ?_)))
  all_goals (first | refine ar_id ?_ | (try (focus ((try refine nrmO ?_); (repeat' (first | exact True.intro | refine And.intro ?_ ?_)); all_goals (try (intro (hg_ : _ = true); (try simp only [isNilI, inB, reduceCtorEq, cds] at hg_); (repeat' (first | exact True.intro | refine And.intro ?_ ?_)))); all_goals (first | exact ob1 | skip)))))
  · refine bf fun h => hc_ ?_
    have := h.2.2 _ (getD_in (l := f.Cells.zip f.Used) (i := i) (d := ([], false)) (by rw [List.length_zip]; omega))
    rw [zip_take' (by omega) (by omega)] at this
    rw [this.1]; rfl
  · have h16 := hc_
    refine ar_keep 63 (by dsimp only [keepS] <;> exact rfl) ?_
    refine ar_forM (16) (fun k => ∀ v ∈ (f.Cells.getD i []).take k, okV (f.Used.getD i false) v) (fun k => [(4, (TV.sv (.one (.lit (.int .i64 (k))))))]) (fun k => []) ?_ ?_ ?_
    rotate_left
    · first | trivial | simp
    (dsimp only [rnCap, capSVs, Int.toNat_natCast, ro, Nat.reduceAdd, Nat.reduceMul, Nat.zero_add, List.map, putT, app, wrapG, gOb, argT, keys, slotOf, dropped, gAnd, wB, rnT, rnS, rnC, rnCs, rnSs, rnM, rnB, rnN, rn, lk, St.over, ded, delL, keepT, menT, menSs, menS, menCs, menC, hasN, resT, SV.cells]; refine wk3 ?_; (focus ((try refine nrmO ?_); (repeat' (first | exact True.intro | refine And.intro ?_ ?_)); all_goals (try (intro (hg_ : _ = true); (try simp only [isNilI, inB, reduceCtorEq, cds] at hg_); (repeat' (first | exact True.intro | refine And.intro ?_ ?_)))); all_goals (first | exact ob1 | exact rfl | skip))))
    rotate_right
    intro k hk_ hkI_
    dsimp only [rnCap, capSVs, Int.toNat_natCast, ro, Nat.reduceAdd, Nat.reduceMul, Nat.zero_add, List.map, putT, app, wrapG, gOb, argT, keys, slotOf, dropped, gAnd, wB, rnT, rnS, rnC, rnCs, rnSs, rnM, rnB, rnN, rn, lk, St.over, ded, delL, keepT, menT, menSs, menS, menCs, menC, hasN, resT, SV.cells]
    repeat' (refine ar_id ?_; first | refine st1 ?_ | (first | ((first | refine ar_region (id := 11) tt_ok (inps := [.elem (eIntS (f.Cells.getD i [])), .elem (Tr.eI ((f.Cells.getD i []).getD k 0))]) rfl ?_ ?_ | refine ar_region (id := 12) tt_ok (inps := [.call (c_In ((f.Cells.getD i []).getD k 0) 0 999), .elem (Tr.eB (f.Used.getD i false))]) rfl ?_ ?_ | refine ar_region tt_ok (inps := []) rfl ?_ ?_); rotate_left; (try dsimp only [c_In]); (try refine nrm ?_); rotate_right) | refine ret3 ?_ | refine end3 ?_) | (refine ar_cond rfl trivial ?_ ?_ <;> intro hc_ <;> (try simp only [isNilI, inB, reduceCtorEq, cds] at hc_) <;> (try (first | contradiction | (exfalso; omega)))) | refine ar_until (And.intro ?_ (wk3 ?_)))
    all_goals (first | refine ar_id ?_ | (try (focus ((try refine nrmO ?_); (repeat' (first | exact True.intro | refine And.intro ?_ ?_)); all_goals (try (intro (hg_ : _ = true); (try simp only [isNilI, inB, reduceCtorEq, cds] at hg_); (repeat' (first | exact True.intro | refine And.intro ?_ ?_)))); all_goals (first | exact ob1 | exact fn_In _ _ _ | skip)))))
    · refine bf fun h => ?_
      have := h.2.2 _ (getD_in (l := f.Cells.zip f.Used) (i := i) (d := ([], false)) (by rw [List.length_zip]; omega))
      rw [zip_take' (by omega) (by omega)] at this
      have h5 := this.2 _ (getD_in (l := f.Cells.getD i []) (i := k) (d := 0) (by omega))
      rcases hc_ with h1 | ⟨h1, h2⟩
      · have := h5.1; omega
      · rcases h5.2 with h3 | h3
        · rw [h1] at h3; cases h3
        · exact h2 h3
    · exact all_take (d := 0) hkI_ (by omega) hc_
    · refine all_take (d := ([], false)) hiI_ (by rw [List.length_zip]; omega) ?_
      rw [zip_take' (by omega) (by omega)]
      refine ⟨(show (f.Cells.getD i []).length = 16 by omega), ?_⟩
      exact all_full (l := f.Cells.getD i []) hkI_ (by omega)
  · exact bt ⟨by omega, by omega, all_full hiI_ (by rw [List.length_zip]; omega)⟩
def c_Free5 (f : GFrames) : CFD := ⟨128, [.agg [ro 33 1 eIntS f.Cells, ro 4 1 Tr.eB f.Used]], [], (TV.sv (.one (.lit (.int .i64 (pFree f))))), [], [], []⟩
theorem fn_Free5 (f : GFrames) (hu : f.Used.length ≤ 1048576) : Fn Tryz.prog (c_Free5 f) := by
  refine fn_intro tt_ok Tryz.func128 rfl Tryz.call128 Tryz.ntmps128 Tryz.results128 rfl rfl rfl rfl ?_
  intro X ρ0 hb_ hgl_
  dsimp only [c_Free5]
  try refine nrm ?_
  repeat' (refine ar_id ?_; first | refine st1 ?_ | (first | ((first | refine ar_region tt_ok (inps := []) rfl ?_ ?_); rotate_left; (try refine nrm ?_); rotate_right) | refine ret3 ?_ | refine end3 ?_) | (refine ar_cond rfl trivial ?_ ?_ <;> intro hc_ <;> (try simp only [isNilI, inB, reduceCtorEq, cds] at hc_) <;> (try (first | contradiction | (exfalso; omega)))) | refine ar_until (And.intro ?_ (wk3 ?_)))
  all_goals (first | refine ar_id ?_ | (try (focus ((try refine nrmO ?_); (repeat' (first | exact True.intro | refine And.intro ?_ ?_)); all_goals (try (intro (hg_ : _ = true); (try simp only [isNilI, inB, reduceCtorEq, cds] at hg_); (repeat' (first | exact True.intro | refine And.intro ?_ ?_)))); all_goals (first | exact ob1 | skip)))))
  refine ar_keep 15 (by dsimp only [keepS] <;> exact rfl) ?_
  refine ar_forM (f.Used.length) (fun i => ∀ u ∈ f.Used.take i, u = true) (fun i => [(3, (TV.sv (.one (.lit (.int .i64 (i))))))]) (fun i => []) ?_ ?_ ?_
  rotate_left
  · first | trivial | simp
  (dsimp only [rnCap, capSVs, Int.toNat_natCast, ro, Nat.reduceAdd, Nat.reduceMul, Nat.zero_add, List.map, putT, app, wrapG, gOb, argT, keys, slotOf, dropped, gAnd, wB, rnT, rnS, rnC, rnCs, rnSs, rnM, rnB, rnN, rn, lk, St.over, ded, delL, keepT, menT, menSs, menS, menCs, menC, hasN, resT, SV.cells]; refine wk3 ?_; (focus ((try refine nrmO ?_); (repeat' (first | exact True.intro | refine And.intro ?_ ?_)); all_goals (try (intro (hg_ : _ = true); (try simp only [isNilI, inB, reduceCtorEq, cds] at hg_); (repeat' (first | exact True.intro | refine And.intro ?_ ?_)))); all_goals (first | exact ob1 | exact rfl | skip))))
  rotate_right
  intro i hi_ hiI_
  dsimp only [rnCap, capSVs, Int.toNat_natCast, ro, Nat.reduceAdd, Nat.reduceMul, Nat.zero_add, List.map, putT, app, wrapG, gOb, argT, keys, slotOf, dropped, gAnd, wB, rnT, rnS, rnC, rnCs, rnSs, rnM, rnB, rnN, rn, lk, St.over, ded, delL, keepT, menT, menSs, menS, menCs, menC, hasN, resT, SV.cells]
  repeat' (refine ar_id ?_; first | refine st1 ?_ | (first | ((first | refine ar_region (id := 4) tt_ok (inps := [.elem (Tr.eB (f.Used.getD i false))]) rfl ?_ ?_ | refine ar_region tt_ok (inps := []) rfl ?_ ?_); rotate_left; (try refine nrm ?_); rotate_right) | refine ret3 ?_ | refine end3 ?_) | (refine ar_cond rfl trivial ?_ ?_ <;> intro hc_ <;> (try simp only [isNilI, inB, reduceCtorEq, cds] at hc_) <;> (try (first | contradiction | (exfalso; omega)))) | refine ar_until (And.intro ?_ (wk3 ?_)))
  all_goals (first | refine ar_id ?_ | (try (focus ((try refine nrmO ?_); (repeat' (first | exact True.intro | refine And.intro ?_ ?_)); all_goals (try (intro (hg_ : _ = true); (try simp only [isNilI, inB, reduceCtorEq, cds] at hg_); (repeat' (first | exact True.intro | refine And.intro ?_ ?_)))); all_goals (first | exact ob1 | skip)))))
  · exact congrArg (Value.int .i64) (freeAt_hit f.Used i (by rw [getD_at (x := false) (by omega), hc_]) hiI_).symm
  · rw [take_getD _ false (by omega), hc_]
    intro u hm
    rw [List.mem_append, List.mem_singleton] at hm
    exact hm.elim (hiI_ u) id
  · rw [List.take_of_length_le (by omega)] at hiI_
    exact congrArg (Value.int .i64) (freeAt_none f.Used hiI_).symm
def c_New5 (n : Int) : CFD := ⟨160, [(SV.one (.lit (.int .i64 (n))))], [], .tup [.agg [.hd 0, .hd 1], (SV.one (.lit (.bool ((pFramesNew n).2))))],
  [(0, some (.row 33 1 ((pFramesNew n).1.Cells.map eIntS))), (1, some (.row 4 1 ((pFramesNew n).1.Used.map Tr.eB)))], [0, 1], []⟩
theorem fn_New5 (n : Int) : Fn Tryz.prog (c_New5 n) := by
  by_cases hn : 1 ≤ n ∧ n ≤ 32
  · have hV : pFramesNew n = (⟨List.replicate n.toNat (List.replicate 16 0), List.replicate n.toNat false⟩, true) := by unfold pFramesNew; rw [if_pos hn]
    have hnn : ((n.toNat : Nat) : Int) = n := by omega
    refine fn_intro tt_ok Tryz.func160 rfl Tryz.call160 Tryz.ntmps160 Tryz.results160 rfl rfl rfl rfl ?_
    intro X ρ0 hb_ hgl_
    dsimp only [c_New5]
    try refine nrm ?_
    repeat' (refine ar_id ?_; first | refine st1 ?_ | (first | ((first | refine ar_region (id := 2) tt_ok (inps := [.call (c_In n 1 32)]) rfl ?_ ?_ | refine ar_region tt_ok (inps := []) rfl ?_ ?_); rotate_left; (try dsimp only [c_In]); (try refine nrm ?_); rotate_right) | refine ret3 ?_ | refine end3 ?_) | (refine ar_cond rfl trivial ?_ ?_ <;> intro hc_ <;> (try simp only [isNilI, inB, reduceCtorEq, cds] at hc_) <;> (try (first | contradiction | (exfalso; omega)))) | refine ar_until (And.intro ?_ (wk3 ?_)))
    all_goals (first | refine ar_id ?_ | (try (focus ((try refine nrmO ?_); (repeat' (first | exact True.intro | refine And.intro ?_ ?_)); all_goals (try (intro (hg_ : _ = true); (try simp only [isNilI, inB, reduceCtorEq, cds] at hg_); (repeat' (first | exact True.intro | refine And.intro ?_ ?_)))); all_goals (first | exact ob1 | exact fn_In _ _ _ | skip)))))
    refine ar_nilB (b := 4) (j := 0) (T := 33) (q := 1) (r := 90000) rfl rfl rfl rfl rfl ?_
    try dsimp only [putL]
    refine ar_nilB (b := 4) (j := 1) (T := 4) (q := 1) (r := 90001) rfl rfl rfl rfl rfl ?_
    try dsimp only [putL]
    refine ar_keep 61 (by dsimp only [keepS] <;> exact rfl) ?_
    refine ar_forM (n.toNat) (fun i => True) (fun i => [(5, (TV.sv (.one (.lit (.int .i64 (i))))))]) (fun i => [(4, some (.box 27 [.hd 90000, .hd 90001])), (90000, some (.row 33 1 (List.replicate i (eIntS (List.replicate 16 0))))), (90001, some (.row 4 1 (List.replicate i (Tr.eB false))))]) ?_ ?_ ?_
    rotate_left
    · first | trivial | simp
    (dsimp only [rnCap, capSVs, Int.toNat_natCast, ro, Nat.reduceAdd, Nat.reduceMul, Nat.zero_add, List.map, putT, app, wrapG, gOb, argT, keys, slotOf, dropped, gAnd, wB, rnT, rnS, rnC, rnCs, rnSs, rnM, rnB, rnN, rn, lk, St.over, ded, delL, keepT, menT, menSs, menS, menCs, menC, hasN, resT, SV.cells]; refine wk3 ?_; (focus ((try refine nrmO ?_); (repeat' (first | exact True.intro | refine And.intro ?_ ?_)); all_goals (try (intro (hg_ : _ = true); (try simp only [isNilI, inB, reduceCtorEq, cds] at hg_); (repeat' (first | exact True.intro | refine And.intro ?_ ?_)))); all_goals (first | exact ob1 | exact rfl | skip))))
    rotate_right
    intro i hi_ hiI_
    dsimp only [rnCap, capSVs, Int.toNat_natCast, ro, Nat.reduceAdd, Nat.reduceMul, Nat.zero_add, List.map, putT, app, wrapG, gOb, argT, keys, slotOf, dropped, gAnd, wB, rnT, rnS, rnC, rnCs, rnSs, rnM, rnB, rnN, rn, lk, St.over, ded, delL, keepT, menT, menSs, menS, menCs, menC, hasN, resT, SV.cells]
    repeat' (refine ar_id ?_; first | refine st1 ?_ | (first | ((first | refine ar_draw (id := 7) (inps := []) tt_ok (by kernel_rfl) rfl rfl (by kernel_rfl) rfl rfl rfl rfl ?_ ?_ | refine ar_region tt_ok (inps := []) rfl ?_ ?_); rotate_left; (try refine nrm ?_); rotate_right) | refine ret3 ?_ | refine end3 ?_) | (refine ar_cond rfl trivial ?_ ?_ <;> intro hc_ <;> (try simp only [isNilI, inB, reduceCtorEq, cds] at hc_) <;> (try (first | contradiction | (exfalso; omega)))) | refine ar_until (And.intro ?_ (wk3 ?_)))
    all_goals (first | refine ar_id ?_ | (try (focus ((try refine nrmO ?_); (repeat' (first | exact True.intro | refine And.intro ?_ ?_)); all_goals (try (intro (hg_ : _ = true); (try simp only [isNilI, inB, reduceCtorEq, cds] at hg_); (repeat' (first | exact True.intro | refine And.intro ?_ ?_)))); all_goals (first | exact ob1 | skip)))))
    · exact rep_snoc i _
    · exact rep_snoc i _
    all_goals (try (have hi : i = n.toNat := by omega); try subst hi)
    · rw [hV]
    · rw [hV, List.map_replicate]
    · rw [hV, List.map_replicate]
  · have hV : pFramesNew n = (⟨[], []⟩, false) := by unfold pFramesNew; rw [if_neg hn]
    refine fn_intro tt_ok Tryz.func160 rfl Tryz.call160 Tryz.ntmps160 Tryz.results160 rfl rfl rfl rfl ?_
    intro X ρ0 hb_ hgl_
    dsimp only [c_New5]
    try refine nrm ?_
    repeat' (refine ar_id ?_; first | refine st1 ?_ | (first | ((first | refine ar_region (id := 2) tt_ok (inps := [.call (c_In n 1 32)]) rfl ?_ ?_ | refine ar_region tt_ok (inps := []) rfl ?_ ?_); rotate_left; (try dsimp only [c_In]); (try refine nrm ?_); rotate_right) | refine ret3 ?_ | refine end3 ?_) | (refine ar_cond rfl trivial ?_ ?_ <;> intro hc_ <;> (try simp only [isNilI, inB, reduceCtorEq, cds] at hc_) <;> (try (first | contradiction | (exfalso; omega)))) | refine ar_until (And.intro ?_ (wk3 ?_)))
    all_goals (first | refine ar_id ?_ | (try (focus ((try refine nrmO ?_); (repeat' (first | exact True.intro | refine And.intro ?_ ?_)); all_goals (try (intro (hg_ : _ = true); (try simp only [isNilI, inB, reduceCtorEq, cds] at hg_); (repeat' (first | exact True.intro | refine And.intro ?_ ?_)))); all_goals (first | exact ob1 | exact fn_In _ _ _ | skip)))))
    refine ar_nilB (b := 2) (j := 0) (T := 33) (q := 1) (r := 90000) rfl rfl rfl rfl rfl ?_
    try dsimp only [putL]
    refine ar_nilB (b := 2) (j := 1) (T := 4) (q := 1) (r := 90001) rfl rfl rfl rfl rfl ?_
    try dsimp only [putL]
    repeat' (refine ar_id ?_; first | refine st1 ?_ | (first | ((first | refine ar_region tt_ok (inps := []) rfl ?_ ?_); rotate_left; (try refine nrm ?_); rotate_right) | refine ret3 ?_ | refine end3 ?_) | (refine ar_cond rfl trivial ?_ ?_ <;> intro hc_ <;> (try simp only [isNilI, inB, reduceCtorEq, cds] at hc_) <;> (try (first | contradiction | (exfalso; omega)))) | refine ar_until (And.intro ?_ (wk3 ?_)))
    all_goals (first | refine ar_id ?_ | (try (focus ((try refine nrmO ?_); (repeat' (first | exact True.intro | refine And.intro ?_ ?_)); all_goals (try (intro (hg_ : _ = true); (try simp only [isNilI, inB, reduceCtorEq, cds] at hg_); (repeat' (first | exact True.intro | refine And.intro ?_ ?_)))); all_goals (first | exact ob1 | skip)))))
    · rw [hV]
    · rw [hV]; rfl
    · rw [hV]; rfl
end Eng
end Go.Proofs.YtlkkiopjknbomaaGreatDoor
namespace Go.Proofs.YtlkkiopjknbomaaGreatDoor
open Go.RowKit
namespace Tr
/-- an entry of a table over so many frames -/
def okE (frames : Int) (e : GEntry) : Prop := (e.Mode = 0 ∧ e.Frame = 0) ∨ ((e.Mode = 1 ∨ e.Mode = 2) ∧ 0 ≤ e.Frame ∧ e.Frame < frames)
instance (frames : Int) (e : GEntry) : Decidable (okE frames e) := by unfold okE; infer_instance
def pTableOk (t : GTable) (frames : Int) : Bool := decide ((∀ e ∈ t.Entries, okE frames e) ∧ 1 ≤ t.Entries.length ∧ t.Entries.length ≤ 32)
def okSet (t : GTable) (page : Int) (e : GEntry) : Prop := (0 ≤ page ∧ page < t.Entries.length) ∧ ((e.Mode = 0 ∧ e.Frame = 0) ∨ ((e.Mode = 1 ∨ e.Mode = 2) ∧ 0 ≤ e.Frame))
instance (t : GTable) (page : Int) (e : GEntry) : Decidable (okSet t page e) := by unfold okSet; infer_instance
def pSetPage (t : GTable) (page : Int) (e : GEntry) : GTable × Bool := if okSet t page e then (⟨t.Entries.set page.toNat e⟩, true) else (t, false)
def pPageEntry (t : GTable) (page : Int) : GEntry := if 0 ≤ page ∧ page < t.Entries.length then t.Entries.getD page.toNat ⟨0, 0⟩ else ⟨0, 0⟩
def onFrame (frame : Int) : Nat → List GEntry → List Int
  | _, [] => []
  | i, e :: l => (if e.Mode ≠ 0 ∧ e.Frame = frame then [(i : Int)] else []) ++ onFrame frame (i + 1) l
def pPagesOn (t : GTable) (frame : Int) : List Int := onFrame frame 0 t.Entries
theorem onFrame_append (f : Int) : ∀ (i : Nat) (a b : List GEntry), onFrame f i (a ++ b) = onFrame f i a ++ onFrame f (i + a.length) b
  | i, [], b => by simp [onFrame]
  | i, e :: a, b => by
    show _ ++ onFrame f (i + 1) (a ++ b) = (_ ++ onFrame f (i + 1) a) ++ _
    rw [onFrame_append f (i + 1) a b, List.append_assoc, List.length_cons, show i + 1 + a.length = i + (a.length + 1) by omega]
theorem onFrame_take (f : Int) (l : List GEntry) (i : Nat) (x : GEntry) (h : l[i]? = some x) : onFrame f 0 (l.take (i + 1)) = onFrame f 0 (l.take i) ++ (if x.Mode ≠ 0 ∧ x.Frame = f then [(i : Int)] else []) := by
  have hi : i < l.length := (List.getElem?_eq_some_iff.1 h).1
  rw [List.take_add_one, h, onFrame_append, List.length_take, Nat.min_eq_left (by omega), Nat.zero_add]
  show _ ++ (_ ++ []) = _
  rw [List.append_nil]
theorem onFrame_len (f : Int) : ∀ (i : Nat) (l : List GEntry), (onFrame f i l).length ≤ l.length
  | _, [] => Nat.le_refl _
  | i, e :: l => by
    show (_ ++ onFrame f (i + 1) l).length ≤ l.length + 1
    have := onFrame_len f (i + 1) l
    rw [List.length_append]
    split <;> simp <;> omega
def pTableNew (pages : Int) : GTable × Bool := if 1 ≤ pages ∧ pages ≤ 32 then (⟨List.replicate pages.toNat ⟨0, 0⟩⟩, true) else (⟨[]⟩, false)
end Tr
end Go.Proofs.YtlkkiopjknbomaaGreatDoor
namespace Go.Proofs.YtlkkiopjknbomaaGreatDoor
open Go.RowKit
set_option linter.unusedVariables false
set_option linter.unusedSimpArgs false
set_option maxRecDepth 100000
namespace Eng
open Tr
def c_Copy6 (t : GTable) : CFD := ⟨142, [.agg [ro 45 2 eEntry t.Entries]], [], .sv (.agg [.hd 0]), [(0, some (.row 45 2 (t.Entries.map eEntry)))], [0], []⟩
theorem fn_Copy6 (t : GTable) (hl : t.Entries.length ≤ 1048576) : Fn Tryz.prog (c_Copy6 t) := by
  refine fn_intro tt_ok Tryz.func142 rfl Tryz.call142 Tryz.ntmps142 Tryz.results142 rfl rfl rfl rfl ?_
  intro X ρ0 hb_ hgl_
  dsimp only [c_Copy6]
  try refine nrm ?_
  repeat' (refine ar_id ?_; first | refine st1 ?_ | (first | ((first | refine ar_region (id := 1) tt_ok (inps := [.elems (t.Entries.map eEntry)]) rfl ?_ ?_ | refine ar_region tt_ok (inps := []) rfl ?_ ?_); rotate_left; (try refine nrm ?_); rotate_right) | refine ret3 ?_ | refine end3 ?_) | (refine ar_cond rfl trivial ?_ ?_ <;> intro hc_ <;> (try simp only [isNilI, inB, reduceCtorEq, cds] at hc_) <;> (try (first | contradiction | (exfalso; omega)))) | refine ar_until (And.intro ?_ (wk3 ?_)))
  all_goals (first | refine ar_id ?_ | (try (focus ((try refine nrmO ?_); (repeat' (first | exact True.intro | refine And.intro ?_ ?_)); all_goals (try (intro (hg_ : _ = true); (try simp only [isNilI, inB, reduceCtorEq, cds] at hg_); (repeat' (first | exact True.intro | refine And.intro ?_ ?_)))); all_goals (first | exact ob1 | exact flat_map' t.Entries (fun x => ⟨rfl, rfl, rfl, trivial⟩) | exact (by simp only [lns]; omega) | exact (by simp) | skip)))))
theorem countP_take {α : Type} (p : α → Bool) (l : List α) (d : α) {i : Nat} (h : i < l.length) : (l.take (i + 1)).countP p = (l.take i).countP p + (if p (l.getD i d) then 1 else 0) := by
  rw [List.take_add_one, List.getElem?_eq_getElem h, Option.toList_some, List.countP_append, List.countP_singleton]
  simp [List.getD, h]
def c_PageEntry (t : GTable) (page : Int) : CFD := ⟨11, [.agg [ro 45 2 eEntry t.Entries], (SV.one (.lit (.int .i64 (page))))], [], .sv (.agg [(CV.lit (.int .i64 ((pPageEntry t page).Mode))), (CV.lit (.int .i64 ((pPageEntry t page).Frame)))]), [], [], []⟩
theorem fn_PageEntry (t : GTable) (page : Int) (hl : t.Entries.length ≤ 1048576) : Fn Tryz.prog (c_PageEntry t page) := by
  refine fn_intro tt_ok Tryz.func11 rfl Tryz.call11 Tryz.ntmps11 Tryz.results11 rfl rfl rfl rfl ?_
  intro X ρ0 hb_ hgl_
  dsimp only [c_PageEntry]
  try refine nrm ?_
  repeat' (refine ar_id ?_; first | refine st1 ?_ | (first | ((first | refine ar_region (id := 1) tt_ok (inps := [.call (c_In page 0 (t.Entries.length - 1))]) rfl ?_ ?_ | refine ar_region (id := 3) tt_ok (inps := [.elem (eEntry (t.Entries.getD page.toNat ⟨0, 0⟩))]) rfl ?_ ?_ | refine ar_region tt_ok (inps := []) rfl ?_ ?_); rotate_left; (try dsimp only [c_In]); (try refine nrm ?_); rotate_right) | refine ret3 ?_ | refine end3 ?_) | (refine ar_cond rfl trivial ?_ ?_ <;> intro hc_ <;> (try simp only [isNilI, inB, reduceCtorEq, cds] at hc_) <;> (try (first | contradiction | (exfalso; omega)))) | refine ar_until (And.intro ?_ (wk3 ?_)))
  all_goals (first | refine ar_id ?_ | (try (focus ((try refine nrmO ?_); (repeat' (first | exact True.intro | refine And.intro ?_ ?_)); all_goals (try (intro (hg_ : _ = true); (try simp only [isNilI, inB, reduceCtorEq, cds] at hg_); (repeat' (first | exact True.intro | refine And.intro ?_ ?_)))); all_goals (first | exact ob1 | exact fn_In _ _ _ | skip)))))
  all_goals unfold pPageEntry
  · rw [if_neg (by omega)]
  · rw [if_neg (by omega)]
  · rw [if_pos (by omega)]
  · rw [if_pos (by omega)]
def c_PagesOn (t : GTable) (frame : Int) : CFD := ⟨97, [.agg [ro 45 2 eEntry t.Entries], (SV.one (.lit (.int .i64 (frame))))], [], .sv (.one (.hd 0)), [(0, some (.row 3 1 ((pPagesOn t frame).map eI)))], [0], []⟩
theorem fn_PagesOn (t : GTable) (frame : Int) (hl : t.Entries.length ≤ 1048576) : Fn Tryz.prog (c_PagesOn t frame) := by
  refine fn_intro tt_ok Tryz.func97 rfl Tryz.call97 Tryz.ntmps97 Tryz.results97 rfl rfl rfl rfl ?_
  intro X ρ0 hb_ hgl_
  dsimp only [c_PagesOn]
  try refine nrm ?_
  repeat' (refine ar_id ?_; first | refine st1 ?_ | (first | ((first | refine ar_region tt_ok (inps := []) rfl ?_ ?_); rotate_left; (try refine nrm ?_); rotate_right) | refine ret3 ?_ | refine end3 ?_) | (refine ar_cond rfl trivial ?_ ?_ <;> intro hc_ <;> (try simp only [isNilI, inB, reduceCtorEq, cds] at hc_) <;> (try (first | contradiction | (exfalso; omega)))) | refine ar_until (And.intro ?_ (wk3 ?_)))
  all_goals (first | refine ar_id ?_ | (try (focus ((try refine nrmO ?_); (repeat' (first | exact True.intro | refine And.intro ?_ ?_)); all_goals (try (intro (hg_ : _ = true); (try simp only [isNilI, inB, reduceCtorEq, cds] at hg_); (repeat' (first | exact True.intro | refine And.intro ?_ ?_)))); all_goals (first | exact ob1 | skip)))))
  refine ar_keep 119 (by dsimp only [keepS] <;> exact rfl) ?_
  refine ar_forM (t.Entries.length) (fun i => True) (fun i => [(6, (TV.sv (.one (.lit (.int .i64 (i)))))), (5, (TV.sv (.one (.hd 7))))]) (fun i => [(7, some (.row 3 1 ((onFrame frame 0 (t.Entries.take i)).map eI)))]) ?_ ?_ ?_
  rotate_left
  · first | trivial | simp
  (dsimp only [rnCap, capSVs, Int.toNat_natCast, ro, Nat.reduceAdd, Nat.reduceMul, Nat.zero_add, List.map, putT, app, wrapG, gOb, argT, keys, slotOf, dropped, gAnd, wB, rnT, rnS, rnC, rnCs, rnSs, rnM, rnB, rnN, rn, lk, St.over, ded, delL, keepT, menT, menSs, menS, menCs, menC, hasN, resT, SV.cells]; refine wk3 ?_; (focus ((try refine nrmO ?_); (repeat' (first | exact True.intro | refine And.intro ?_ ?_)); all_goals (try (intro (hg_ : _ = true); (try simp only [isNilI, inB, reduceCtorEq, cds] at hg_); (repeat' (first | exact True.intro | refine And.intro ?_ ?_)))); all_goals (first | exact ob1 | exact rfl | skip))))
  rotate_right
  intro i hi_ hiI_
  dsimp only [rnCap, capSVs, Int.toNat_natCast, ro, Nat.reduceAdd, Nat.reduceMul, Nat.zero_add, List.map, putT, app, wrapG, gOb, argT, keys, slotOf, dropped, gAnd, wB, rnT, rnS, rnC, rnCs, rnSs, rnM, rnB, rnN, rn, lk, St.over, ded, delL, keepT, menT, menSs, menS, menCs, menC, hasN, resT, SV.cells]
  repeat' (refine ar_id ?_; first | refine st1 ?_ | (first | ((first | refine ar_region (id := 5) tt_ok (inps := [.elem (eEntry (t.Entries.getD i ⟨0, 0⟩)), .elem (eEntry (t.Entries.getD i ⟨0, 0⟩))]) rfl ?_ ?_ | refine ar_region tt_ok (inps := []) rfl ?_ ?_); rotate_left; (try refine nrm ?_); rotate_right) | refine ret3 ?_ | refine end3 ?_) | (refine ar_cond rfl trivial ?_ ?_ <;> intro hc_ <;> (try simp only [isNilI, inB, reduceCtorEq, cds] at hc_) <;> (try (first | contradiction | (exfalso; omega)))) | refine ar_until (And.intro ?_ (wk3 ?_)))
  all_goals (first | refine ar_id ?_ | (try (focus ((try refine nrmO ?_); (repeat' (first | exact True.intro | refine And.intro ?_ ?_)); all_goals (try (intro (hg_ : _ = true); (try simp only [isNilI, inB, reduceCtorEq, cds] at hg_); (repeat' (first | exact True.intro | refine And.intro ?_ ?_)))); all_goals (first | exact ob1 | skip)))))
  · have := onFrame_len frame 0 (t.Entries.take i)
    simp only [List.length_map, List.length_take, List.length_cons, List.length_nil] at *
    omega
  · rw [onFrame_take _ _ _ _ (getD_at (x := ⟨0, 0⟩) (by omega)), if_pos hc_, List.map_append, app_eq]; rfl
  · rw [onFrame_take _ _ _ _ (getD_at (x := ⟨0, 0⟩) (by omega)), if_neg (by omega), List.append_nil]
  · rw [List.take_of_length_le (by omega)]; rfl
def c_TOk (t : GTable) (frames : Int) : CFD := ⟨96, [.agg [ro 45 2 eEntry t.Entries], (SV.one (.lit (.int .i64 (frames))))], [], (TV.sv (.one (.lit (.bool (pTableOk t frames))))), [], [], []⟩
theorem fn_TOk (t : GTable) (frames : Int) (hl : t.Entries.length ≤ 1048576) : Fn Tryz.prog (c_TOk t frames) := by
  refine fn_intro tt_ok Tryz.func96 rfl Tryz.call96 Tryz.ntmps96 Tryz.results96 rfl rfl rfl rfl ?_
  intro X ρ0 hb_ hgl_
  dsimp only [c_TOk]
  try refine nrm ?_
  repeat' (refine ar_id ?_; first | refine st1 ?_ | (first | ((first | refine ar_region tt_ok (inps := []) rfl ?_ ?_); rotate_left; (try refine nrm ?_); rotate_right) | refine ret3 ?_ | refine end3 ?_) | (refine ar_cond rfl trivial ?_ ?_ <;> intro hc_ <;> (try simp only [isNilI, inB, reduceCtorEq, cds] at hc_) <;> (try (first | contradiction | (exfalso; omega)))) | refine ar_until (And.intro ?_ (wk3 ?_)))
  all_goals (first | refine ar_id ?_ | (try (focus ((try refine nrmO ?_); (repeat' (first | exact True.intro | refine And.intro ?_ ?_)); all_goals (try (intro (hg_ : _ = true); (try simp only [isNilI, inB, reduceCtorEq, cds] at hg_); (repeat' (first | exact True.intro | refine And.intro ?_ ?_)))); all_goals (first | exact ob1 | skip)))))
  refine ar_keep 119 (by dsimp only [keepS] <;> exact rfl) ?_
  refine ar_forM (t.Entries.length) (fun i => ∀ e ∈ t.Entries.take i, okE frames e) (fun i => [(5, (TV.sv (.one (.lit (.int .i64 (i))))))]) (fun i => []) ?_ ?_ ?_
  rotate_left
  · first | trivial | simp
  (dsimp only [rnCap, capSVs, Int.toNat_natCast, ro, Nat.reduceAdd, Nat.reduceMul, Nat.zero_add, List.map, putT, app, wrapG, gOb, argT, keys, slotOf, dropped, gAnd, wB, rnT, rnS, rnC, rnCs, rnSs, rnM, rnB, rnN, rn, lk, St.over, ded, delL, keepT, menT, menSs, menS, menCs, menC, hasN, resT, SV.cells]; refine wk3 ?_; (focus ((try refine nrmO ?_); (repeat' (first | exact True.intro | refine And.intro ?_ ?_)); all_goals (try (intro (hg_ : _ = true); (try simp only [isNilI, inB, reduceCtorEq, cds] at hg_); (repeat' (first | exact True.intro | refine And.intro ?_ ?_)))); all_goals (first | exact ob1 | exact rfl | skip))))
  rotate_right
  intro i hi_ hiI_
  dsimp only [rnCap, capSVs, Int.toNat_natCast, ro, Nat.reduceAdd, Nat.reduceMul, Nat.zero_add, List.map, putT, app, wrapG, gOb, argT, keys, slotOf, dropped, gAnd, wB, rnT, rnS, rnC, rnCs, rnSs, rnM, rnB, rnN, rn, lk, St.over, ded, delL, keepT, menT, menSs, menS, menCs, menC, hasN, resT, SV.cells]
  repeat' (refine ar_id ?_; first | refine st1 ?_ | (first | ((first | refine ar_region (id := 4) tt_ok (inps := [.elem (eEntry (t.Entries.getD i ⟨0, 0⟩))]) rfl ?_ ?_ | refine ar_region (id := 5) tt_ok (inps := [.call (c_In (t.Entries.getD i ⟨0, 0⟩).Mode 0 2)]) rfl ?_ ?_ | refine ar_region (id := 7) tt_ok (inps := [.call (c_In t.Entries.length 1 32)]) rfl ?_ ?_ | refine ar_region tt_ok (inps := []) rfl ?_ ?_); rotate_left; (try dsimp only [c_In]); (try refine nrm ?_); rotate_right) | refine ret3 ?_ | refine end3 ?_) | (refine ar_cond rfl trivial ?_ ?_ <;> intro hc_ <;> (try simp only [isNilI, inB, reduceCtorEq, cds] at hc_) <;> (try (first | contradiction | (exfalso; omega)))) | refine ar_until (And.intro ?_ (wk3 ?_)))
  all_goals (first | refine ar_id ?_ | (try (focus ((try refine nrmO ?_); (repeat' (first | exact True.intro | refine And.intro ?_ ?_)); all_goals (try (intro (hg_ : _ = true); (try simp only [isNilI, inB, reduceCtorEq, cds] at hg_); (repeat' (first | exact True.intro | refine And.intro ?_ ?_)))); all_goals (first | exact ob1 | exact fn_In _ _ _ | skip)))))
  · refine bf fun h => ?_
    have h1 := h.1 _ (getD_in (l := t.Entries) (i := i) (d := ⟨0, 0⟩) (by omega))
    unfold okE at h1
    omega
  · refine all_take (d := ⟨0, 0⟩) hiI_ (by omega) ?_
    unfold okE
    omega
  · refine congrArg Value.bool ?_
    have h1 := all_full hiI_ (by omega)
    unfold pTableOk
    cases h : inB (t.Entries.length : Int) 1 32
    · rw [eq_comm, decide_eq_false_iff_not]
      rintro ⟨_, h2, h3⟩
      rw [show inB (t.Entries.length : Int) 1 32 = true from inB_iff.2 ⟨by omega, by omega⟩] at h
      cases h
    · have := inB_iff.1 h
      rw [eq_comm, decide_eq_true_iff]
      exact ⟨h1, by omega, by omega⟩
def c_TNew (n : Int) : CFD := ⟨161, [(SV.one (.lit (.int .i64 (n))))], [], .tup [.agg [.hd 0], (SV.one (.lit (.bool ((pTableNew n).2))))], [(0, some (.row 45 2 ((pTableNew n).1.Entries.map eEntry)))], [0], []⟩
theorem fn_TNew (n : Int) : Fn Tryz.prog (c_TNew n) := by
  by_cases hn : 1 ≤ n ∧ n ≤ 32
  · have hV : pTableNew n = (⟨List.replicate n.toNat ⟨0, 0⟩⟩, true) := by unfold pTableNew; rw [if_pos hn]
    refine fn_intro tt_ok Tryz.func161 rfl Tryz.call161 Tryz.ntmps161 Tryz.results161 rfl rfl rfl rfl ?_
    intro X ρ0 hb_ hgl_
    dsimp only [c_TNew]
    try refine nrm ?_
    repeat' (refine ar_id ?_; first | refine st1 ?_ | (first | ((first | refine ar_region (id := 1) tt_ok (inps := [.call (c_In n 1 32)]) rfl ?_ ?_ | refine ar_region tt_ok (inps := []) rfl ?_ ?_); rotate_left; (try dsimp only [c_In]); (try refine nrm ?_); rotate_right) | refine ret3 ?_ | refine end3 ?_) | (refine ar_cond rfl trivial ?_ ?_ <;> intro hc_ <;> (try simp only [isNilI, inB, reduceCtorEq, cds] at hc_) <;> (try (first | contradiction | (exfalso; omega)))) | refine ar_until (And.intro ?_ (wk3 ?_)))
    all_goals (first | refine ar_id ?_ | (try (focus ((try refine nrmO ?_); (repeat' (first | exact True.intro | refine And.intro ?_ ?_)); all_goals (try (intro (hg_ : _ = true); (try simp only [isNilI, inB, reduceCtorEq, cds] at hg_); (repeat' (first | exact True.intro | refine And.intro ?_ ?_)))); all_goals (first | exact ob1 | exact fn_In _ _ _ | skip)))))
    · rw [hV]
    · rw [hV, List.map_replicate]; rfl
  · have hV : pTableNew n = (⟨[]⟩, false) := by unfold pTableNew; rw [if_neg hn]
    refine fn_intro tt_ok Tryz.func161 rfl Tryz.call161 Tryz.ntmps161 Tryz.results161 rfl rfl rfl rfl ?_
    intro X ρ0 hb_ hgl_
    dsimp only [c_TNew]
    try refine nrm ?_
    repeat' (refine ar_id ?_; first | refine st1 ?_ | (first | ((first | refine ar_region (id := 1) tt_ok (inps := [.call (c_In n 1 32)]) rfl ?_ ?_ | refine ar_region tt_ok (inps := []) rfl ?_ ?_); rotate_left; (try dsimp only [c_In]); (try refine nrm ?_); rotate_right) | refine ret3 ?_ | refine end3 ?_) | (refine ar_cond rfl trivial ?_ ?_ <;> intro hc_ <;> (try simp only [isNilI, inB, reduceCtorEq, cds] at hc_) <;> (try (first | contradiction | (exfalso; omega)))) | refine ar_until (And.intro ?_ (wk3 ?_)))
    all_goals (first | refine ar_id ?_ | (try (focus ((try refine nrmO ?_); (repeat' (first | exact True.intro | refine And.intro ?_ ?_)); all_goals (try (intro (hg_ : _ = true); (try simp only [isNilI, inB, reduceCtorEq, cds] at hg_); (repeat' (first | exact True.intro | refine And.intro ?_ ?_)))); all_goals (first | exact ob1 | exact fn_In _ _ _ | skip)))))
    refine ar_nilB (b := 2) (j := 0) (T := 45) (q := 2) (r := 90000) rfl rfl rfl rfl rfl ?_
    try dsimp only [putL]
    repeat' (refine ar_id ?_; first | refine st1 ?_ | (first | ((first | refine ar_region tt_ok (inps := []) rfl ?_ ?_); rotate_left; (try refine nrm ?_); rotate_right) | refine ret3 ?_ | refine end3 ?_) | (refine ar_cond rfl trivial ?_ ?_ <;> intro hc_ <;> (try simp only [isNilI, inB, reduceCtorEq, cds] at hc_) <;> (try (first | contradiction | (exfalso; omega)))) | refine ar_until (And.intro ?_ (wk3 ?_)))
    all_goals (first | refine ar_id ?_ | (try (focus ((try refine nrmO ?_); (repeat' (first | exact True.intro | refine And.intro ?_ ?_)); all_goals (try (intro (hg_ : _ = true); (try simp only [isNilI, inB, reduceCtorEq, cds] at hg_); (repeat' (first | exact True.intro | refine And.intro ?_ ?_)))); all_goals (first | exact ob1 | skip)))))
    · rw [hV]
    · rw [hV]; rfl
end Eng
end Go.Proofs.YtlkkiopjknbomaaGreatDoor
namespace Go.Proofs.YtlkkiopjknbomaaGreatDoor
open Go.RowKit
set_option linter.unusedVariables false
namespace Tr
/-- the used frames are exactly those to which pages are mapped -/
def usedAre (m : GMachine) : Prop := ∀ i, i < m.Frames.Used.length → m.Frames.Used[i]? = some (decide (0 < (pPagesOn m.Table (i : Int)).length))
instance (m : GMachine) : Decidable (usedAre m) := by unfold usedAre; infer_instance
def okM (m : GMachine) : Prop := okF m.Frames ∧ pTableOk m.Table (m.Frames.Cells.length : Int) = true ∧ usedAre m
instance (m : GMachine) : Decidable (okM m) := by unfold okM; infer_instance
def pMachineOk (m : GMachine) : Bool := decide (okM m)
def noM : GMachine := ⟨⟨[], []⟩, ⟨[]⟩⟩
def pMachineNew (pages frames : Int) : GMachine × Bool := if (pFramesNew frames).2 = true ∧ (pTableNew pages).2 = true then (⟨(pFramesNew frames).1, (pTableNew pages).1⟩, true) else (noM, false)
/-- the entry of an address, and its offset -/
def pEntry (m : GMachine) (addr : Int) : GEntry × Int := if addr < 0 then (⟨0, 0⟩, 0) else (pPageEntry m.Table (addr / 16), addr % 16)
def canLoad (m : GMachine) (addr : Int) : Prop := okM m ∧ (pEntry m addr).1.Mode ≠ 0
instance (m : GMachine) (addr : Int) : Decidable (canLoad m addr) := by unfold canLoad; infer_instance
def cellOf (m : GMachine) (f k : Int) : Int := (m.Frames.Cells.getD f.toNat []).getD k.toNat 0
def pLoad (m : GMachine) (addr : Int) : Int × Int := if canLoad m addr then (cellOf m (pEntry m addr).1.Frame (pEntry m addr).2, 0) else (0, 1)
def setCellOf (m : GMachine) (f k v : Int) : GMachine := ⟨⟨m.Frames.Cells.set f.toNat ((m.Frames.Cells.getD f.toNat []).set k.toNat v), m.Frames.Used⟩, m.Table⟩
def pStore (m : GMachine) (addr v : Int) : GMachine × Int :=
  if canLoad m addr then
    if (pEntry m addr).1.Mode = 1 then (m, 2)
    else if 0 ≤ v ∧ v ≤ 999 then (setCellOf m (pEntry m addr).1.Frame (pEntry m addr).2 v, 0) else (m, 3)
  else (m, 1)
def pPageText (m : GMachine) (page : Int) : List Int := if okM m ∧ (pPageEntry m.Table page).Mode ≠ 0 then m.Frames.Cells.getD (pPageEntry m.Table page).Frame.toNat [] else []
/-- a mapped entry of a valid machine: its frame is there -/
theorem okM_entry {m : GMachine} (h : okM m) {page : Int} (hm : (pPageEntry m.Table page).Mode ≠ 0) : ∃ f : Nat, (pPageEntry m.Table page).Frame = (f : Int) ∧ f < m.Frames.Cells.length ∧ f < m.Frames.Used.length ∧ (m.Frames.Cells.getD f []).length = 16 ∧ m.Frames.Cells[f]? = some (m.Frames.Cells.getD f []) := by
  obtain ⟨h1, h2, _⟩ := h
  unfold pTableOk at h2
  rw [decide_eq_true_iff] at h2
  have he : pPageEntry m.Table page ∈ m.Table.Entries ∨ pPageEntry m.Table page = ⟨0, 0⟩ := by
    unfold pPageEntry
    split
    · rename_i hp
      left
      rw [List.getD_eq_getElem?_getD, List.getElem?_eq_getElem (by omega)]
      exact List.getElem_mem _
    · right; rfl
  rcases he with he | he
  · rcases h2.1 _ he with ⟨h0, _⟩ | ⟨_, h3, h4⟩
    · exact absurd h0 hm
    · obtain ⟨f, hf⟩ := Int.eq_ofNat_of_zero_le h3
      have hl : f < m.Frames.Cells.length := by rw [hf] at h4; omega
      have hu : f < m.Frames.Used.length := by rw [h1.2.1]; exact hl
      have hr : m.Frames.Cells[f]? = some (m.Frames.Cells.getD f []) := by rw [List.getD_eq_getElem?_getD, List.getElem?_eq_getElem hl]; rfl
      exact ⟨f, hf, hl, hu, (h1.2.2 _ (List.mem_of_getElem? (zip_at hr (List.getElem?_eq_getElem hu)))).1, hr⟩
  · rw [he] at hm; exact absurd rfl hm
/-- where the cell of an address lies that can be loaded -/
theorem load_at {m : GMachine} {addr : Int} (h : canLoad m addr) : 0 ≤ addr ∧ ∃ (f k : Nat) (r : List Int), (pEntry m addr).1.Frame = (f : Int) ∧ (pEntry m addr).2 = (k : Int) ∧ k < 16 ∧ f < m.Frames.Cells.length ∧ f < m.Frames.Used.length ∧ m.Frames.Cells[f]? = some r ∧ r.length = 16 := by
  obtain ⟨h1, h2⟩ := h
  by_cases ha : addr < 0
  · unfold pEntry at h2
    rw [if_pos ha] at h2
    exact absurd rfl h2
  · unfold pEntry at h2 ⊢
    rw [if_neg ha] at h2 ⊢
    obtain ⟨f, hf, hl, hu, hr, hrow⟩ := okM_entry h1 h2
    exact ⟨by omega, f, (addr % 16).toNat, _, hf, by show addr % 16 = _; omega, by omega, hl, hu, hrow, hr⟩
end Tr
end Go.Proofs.YtlkkiopjknbomaaGreatDoor
namespace Go.Proofs.YtlkkiopjknbomaaGreatDoor
open Go.RowKit
set_option linter.unusedVariables false
namespace Tr
def okK (k : GKernel) : Prop := okM k.Machine ∧ (0 ≤ k.Calls ∧ k.Calls ≤ 100000) ∧ (∀ x ∈ k.Refuse, 0 ≤ x) ∧ k.Refuse.length ≤ 40
instance (k : GKernel) : Decidable (okK k) := by unfold okK; infer_instance
def pKernelOk (k : GKernel) : Bool := decide (okK k)
def noK : GKernel := ⟨noM, 0, []⟩
def pKernelNew (pages frames : Int) (refuse : List Int) : GKernel × Bool := if (pMachineNew pages frames).2 = true ∧ okK ⟨(pMachineNew pages frames).1, 0, refuse⟩ then (⟨(pMachineNew pages frames).1, 0, refuse⟩, true) else (noK, false)
def canCall (k : GKernel) : Prop := okK k ∧ k.Calls < 100000
instance (k : GKernel) : Decidable (canCall k) := by unfold canCall; infer_instance
/-- the kernel behind one call more, and whether that call is granted -/
def called (k : GKernel) : GKernel := ⟨k.Machine, k.Calls + 1, k.Refuse⟩
def granted (k : GKernel) : Prop := k.Calls ∉ k.Refuse
instance (k : GKernel) : Decidable (granted k) := by unfold granted; infer_instance
def modeOf (k : GKernel) (page : Int) : Int := (pPageEntry k.Machine.Table page).Mode
/-- a frame given back if no page is mapped to it -/
def dropped (m : GMachine) (f : Nat) : GMachine := if (pPagesOn m.Table (f : Int)).length = 0 then ⟨⟨m.Frames.Cells.set f (List.replicate 16 0), m.Frames.Used.set f false⟩, m.Table⟩ else m
def setEntry (m : GMachine) (page : Nat) (e : GEntry) : GMachine := ⟨m.Frames, ⟨m.Table.Entries.set page e⟩⟩
def pNew (k : GKernel) (page : Int) : GKernel × Bool :=
  if granted k ∧ (0 ≤ page ∧ page < k.Machine.Table.Entries.length) ∧ modeOf k page = 0 ∧ 0 ≤ pFree k.Machine.Frames then
    (⟨setEntry ⟨⟨k.Machine.Frames.Cells, k.Machine.Frames.Used.set (pFree k.Machine.Frames).toNat true⟩, k.Machine.Table⟩ page.toNat ⟨2, pFree k.Machine.Frames⟩, k.Calls + 1, k.Refuse⟩, true)
  else (called k, false)
def pKMapNew (k : GKernel) (page : Int) : GKernel × Bool := if canCall k then pNew k page else (k, false)
def pOn (k : GKernel) (page other : Int) : GKernel × Bool :=
  if granted k ∧ modeOf k page ≠ 0 ∧ modeOf k other ≠ 0 ∧ page ≠ other then
    (⟨dropped (setEntry k.Machine page.toNat ⟨2, (pPageEntry k.Machine.Table other).Frame⟩) (pPageEntry k.Machine.Table page).Frame.toNat, k.Calls + 1, k.Refuse⟩, true)
  else (called k, false)
def pKMapOn (k : GKernel) (page other : Int) : GKernel × Bool := if canCall k then pOn k page other else (k, false)
def pProtect (k : GKernel) (page mode : Int) : GKernel × Bool :=
  if granted k ∧ modeOf k page ≠ 0 ∧ (1 ≤ mode ∧ mode ≤ 2) then (⟨setEntry k.Machine page.toNat ⟨mode, (pPageEntry k.Machine.Table page).Frame⟩, k.Calls + 1, k.Refuse⟩, true) else (called k, false)
def pKProtect (k : GKernel) (page mode : Int) : GKernel × Bool := if canCall k then pProtect k page mode else (k, false)
/-- the cells of one frame copied into another, one behind the other -/
def copied (m : GMachine) (a b : Int) : List Int → GMachine
  | [] => m
  | c :: l => copied (setCellOf m b c (cellOf m a c)) a b l
def pCells (k : GKernel) (a b : Int) (cells : List Int) : GKernel × Bool :=
  if (modeOf k a ≠ 0 ∧ modeOf k b ≠ 0) ∧ (∀ c ∈ cells, 0 ≤ c ∧ c ≤ 15) then (⟨copied k.Machine (pPageEntry k.Machine.Table a).Frame (pPageEntry k.Machine.Table b).Frame cells, k.Calls, k.Refuse⟩, true) else (k, false)
def pKCopy (k : GKernel) (a b : Int) (cells : List Int) : GKernel × Bool := if canCall k then pCells k a b cells else (k, false)
end Tr
end Go.Proofs.YtlkkiopjknbomaaGreatDoor
namespace Go.Proofs.YtlkkiopjknbomaaGreatDoor
open Go.RowKit
set_option linter.unusedVariables false
namespace Tr
theorem okF_at {f : GFrames} : okF f ↔ (1 ≤ f.Cells.length ∧ f.Cells.length ≤ 32) ∧ f.Used.length = f.Cells.length ∧ ∀ (i : Nat) (r : List Int) (u : Bool), f.Cells[i]? = some r → f.Used[i]? = some u → okRow u r := by
  unfold okF
  constructor
  · rintro ⟨h1, h2, h3⟩
    exact ⟨h1, h2, fun i r u hr hu => h3 (r, u) (List.mem_of_getElem? (zip_at hr hu))⟩
  · rintro ⟨h1, h2, h3⟩
    refine ⟨h1, h2, fun p hp => ?_⟩
    obtain ⟨i, hi⟩ := List.mem_iff_getElem?.1 hp
    obtain ⟨r, u⟩ := p
    obtain ⟨hr, hu⟩ := List.getElem?_zip_eq_some.1 hi
    exact h3 i r u hr hu
end Tr
end Go.Proofs.YtlkkiopjknbomaaGreatDoor
namespace Go.Proofs.YtlkkiopjknbomaaGreatDoor
open Go.RowKit
set_option linter.unusedVariables false
namespace Tr
theorem okRow_mono {u : Bool} {r : List Int} (h : okRow u r) : okRow true r := ⟨h.1, fun v hv => ⟨(h.2 v hv).1, .inl rfl⟩⟩
theorem okRow_none {r : List Int} (h : okRow false r) : r = List.replicate 16 0 := by
  refine List.eq_replicate_iff.2 ⟨h.1, fun v hv => ?_⟩
  rcases (h.2 v hv).2 with h2 | h2
  · cases h2
  · exact h2
/-- frames of which frame i is taken -/
structure Taken (f : GFrames) (i : Nat) : Prop where
  ok : okF f
  free : f.Used[i]? = some false
section
variable {f : GFrames} {i : Nat} (t : Taken f i)
include t
theorem Taken.lt : i < f.Used.length := (List.getElem?_eq_some_iff.1 t.free).1
theorem Taken.ltc : i < f.Cells.length := by have := t.lt; have := t.ok.2.1; omega
theorem Taken.row : f.Cells[i]? = some (List.replicate 16 0) := by
  have hl := t.ltc
  have hr := List.getElem?_eq_getElem hl
  have h1 := (okF_at.1 t.ok).2.2 i _ false hr t.free
  rw [hr, okRow_none h1]
end
end Tr
end Go.Proofs.YtlkkiopjknbomaaGreatDoor
namespace Go.Proofs.YtlkkiopjknbomaaGreatDoor
open Go.RowKit
set_option linter.unusedVariables false
namespace Tr
theorem ok_true {f : GFrames} (h : okF f) (i : Nat) : okF ⟨f.Cells, f.Used.set i true⟩ := by
  have h := okF_at.1 h
  refine okF_at.2 ⟨h.1, by show (f.Used.set i true).length = _; rw [List.length_set]; exact h.2.1, fun j r u hr hu => ?_⟩
  by_cases hj : i = j
  · subst hj
    have hu' : (f.Used.set i true)[i]? = some u := hu
    have hl : i < f.Used.length := by
      have hr' : f.Cells[i]? = some r := hr
      have := (List.getElem?_eq_some_iff.1 hr').1
      have h2 := h.2.1
      omega
    rw [List.getElem?_set_self hl] at hu'
    obtain rfl := Option.some.inj hu'
    exact okRow_mono (h.2.2 i r _ hr (List.getElem?_eq_getElem hl))
  · have hu' : (f.Used.set i true)[j]? = some u := hu
    rw [List.getElem?_set_ne hj] at hu'
    exact h.2.2 j r u hr hu'
/-- a page and its text -/
theorem entry_at (m : GMachine) (page k : Nat) (hk : k < 16) : pEntry m (16 * (page : Int) + (k : Int)) = (pPageEntry m.Table (page : Int), (k : Int)) := by
  unfold pEntry
  rw [if_neg (by omega), show (16 * (page : Int) + (k : Int)) / 16 = (page : Int) by omega, show (16 * (page : Int) + (k : Int)) % 16 = (k : Int) by omega]
theorem onFrame_pos (f : Int) : ∀ (k : Nat) (l : List GEntry) (i : Nat) (e : GEntry), l[i]? = some e → e.Mode ≠ 0 → e.Frame = f → 0 < (onFrame f k l).length
  | _, [], _, _, h, _, _ => by simp at h
  | k, x :: l, 0, e, h, hm, hf => by
    obtain rfl : x = e := by simpa using h
    show 0 < (_ ++ onFrame f (k + 1) l).length
    rw [if_pos ⟨hm, hf⟩, List.length_append]
    simp; omega
  | k, x :: l, i + 1, e, h, hm, hf => by
    show 0 < (_ ++ onFrame f (k + 1) l).length
    rw [List.length_append]
    have := onFrame_pos f (k + 1) l i e (by simpa using h) hm hf
    omega
/-- a mapped page's frame is used -/
theorem okM_used {m : GMachine} (h : okM m) {page : Int} (hm : (pPageEntry m.Table page).Mode ≠ 0) {f : Nat} (hf : (pPageEntry m.Table page).Frame = (f : Int)) (hu : f < m.Frames.Used.length) : m.Frames.Used[f]? = some true := by
  rw [h.2.2 f hu]
  congr 1
  rw [decide_eq_true_iff]
  by_cases hp : 0 ≤ page ∧ page < m.Table.Entries.length
  · have he : m.Table.Entries[page.toNat]? = some (pPageEntry m.Table page) := by
      unfold pPageEntry
      rw [if_pos hp, List.getD_eq_getElem?_getD, List.getElem?_eq_getElem (by omega)]; rfl
    exact onFrame_pos _ 0 _ _ _ he hm hf
  · unfold pPageEntry at hm
    rw [if_neg hp] at hm
    exact absurd rfl hm
end Tr
end Go.Proofs.YtlkkiopjknbomaaGreatDoor
namespace Go.Proofs.YtlkkiopjknbomaaGreatDoor
open Go.RowKit
set_option linter.unusedVariables false
set_option linter.unusedSimpArgs false
namespace Tr
/-- a page is mapped to the frame f -/
def onF (f : Int) (l : List GEntry) : Prop := ∃ (j : Nat) (e : GEntry), l[j]? = some e ∧ e.Mode ≠ 0 ∧ e.Frame = f
theorem onFrame_iff (f : Int) : ∀ (l : List GEntry) (k : Nat), 0 < (onFrame f k l).length ↔ onF f l
  | [], k => by constructor
                · intro h; exact absurd h (by simp [onFrame])
                · rintro ⟨j, e, h, _⟩; simp at h
  | a :: l, k => by
    unfold onFrame
    have ih := onFrame_iff f l (k + 1)
    by_cases h : a.Mode ≠ 0 ∧ a.Frame = f
    · rw [if_pos h]
      exact ⟨fun _ => ⟨0, a, rfl, h⟩, fun _ => by simp⟩
    · rw [if_neg h]
      refine Iff.trans ih ⟨?_, ?_⟩
      · rintro ⟨j, e, h1, h2⟩; exact ⟨j + 1, e, by simpa using h1, h2⟩
      · rintro ⟨j, e, h1, h2⟩
        cases j with
        | zero => obtain rfl := Option.some.inj (show some a = some e from h1); exact absurd h2 h
        | succ j => exact ⟨j, e, by simpa using h1, h2⟩
theorem pages_iff (t : GTable) (f : Int) : 0 < (pPagesOn t f).length ↔ onF f t.Entries := onFrame_iff f _ 0
theorem used_iff {m : GMachine} : usedAre m ↔ ∀ i, i < m.Frames.Used.length → (m.Frames.Used[i]? = some true ∧ onF (i : Int) m.Table.Entries) ∨ (m.Frames.Used[i]? = some false ∧ ¬ onF (i : Int) m.Table.Entries) := by
  unfold usedAre
  refine forall_congr' fun i => forall_congr' fun hi => ?_
  rw [← pages_iff]
  by_cases h : 0 < (pPagesOn m.Table (i : Int)).length
  · rw [decide_eq_true h]; simp [h]
  · rw [decide_eq_false h]; simp [h]
theorem onF_set {l : List GEntry} {p : Nat} {e : GEntry} {f : Int} (hp : p < l.length) (h : onF f (l.set p e)) : (e.Mode ≠ 0 ∧ e.Frame = f) ∨ ∃ (j : Nat) (d : GEntry), j ≠ p ∧ l[j]? = some d ∧ d.Mode ≠ 0 ∧ d.Frame = f := by
  obtain ⟨j, d, h1, h2⟩ := h
  rw [List.getElem?_set] at h1
  by_cases hj : p = j
  · subst hj
    rw [if_pos rfl, if_pos hp] at h1
    obtain rfl := Option.some.inj h1
    exact .inl h2
  · rw [if_neg hj] at h1
    exact .inr ⟨j, d, fun e => hj e.symm, h1, h2⟩
theorem onF_keep {l : List GEntry} {p : Nat} {e : GEntry} {f : Int} {j : Nat} {d : GEntry} (hj : j ≠ p) (h1 : l[j]? = some d) (h2 : d.Mode ≠ 0 ∧ d.Frame = f) : onF f (l.set p e) :=
  ⟨j, d, by rw [List.getElem?_set, if_neg (Ne.symm hj)]; exact h1, h2⟩
theorem onF_new {l : List GEntry} {p : Nat} {e : GEntry} {f : Int} (hp : p < l.length) (h2 : e.Mode ≠ 0 ∧ e.Frame = f) : onF f (l.set p e) := ⟨p, e, by rw [List.getElem?_set, if_pos rfl, if_pos hp], h2⟩
theorem okT_set {t : GTable} {n : Int} {p : Nat} {e : GEntry} (h : pTableOk t n = true) (he : okE n e) : pTableOk ⟨t.Entries.set p e⟩ n = true := by
  unfold pTableOk at h ⊢
  have h' := of_decide_eq_true h
  refine decide_eq_true ⟨fun x hx => ?_, ?_, ?_⟩
  · rcases List.mem_or_eq_of_mem_set hx with h1 | h1
    · exact h'.1 x h1
    · rw [h1]; exact he
  · show 1 ≤ (t.Entries.set p e).length; rw [List.length_set]; exact h'.2.1
  · show (t.Entries.set p e).length ≤ 32; rw [List.length_set]; exact h'.2.2
/-- a frame emptied and no longer used -/
theorem okF_drop {f : GFrames} (h : okF f) (i : Nat) : okF ⟨f.Cells.set i (List.replicate 16 0), f.Used.set i false⟩ := by
  refine ⟨by simpa using h.1, by simpa using h.2.1, ?_⟩
  intro p hp
  obtain ⟨j, hj⟩ := List.getElem?_of_mem hp
  rw [List.getElem?_zip_eq_some] at hj
  obtain ⟨h1, h2⟩ := hj
  rw [List.getElem?_set] at h1 h2
  by_cases e : i = j
  · subst e
    rw [if_pos rfl] at h1 h2
    split at h1
    · split at h2
      · obtain h1 := Option.some.inj h1
        obtain h2 := Option.some.inj h2
        rw [← h1, ← h2]
        refine ⟨List.length_replicate, fun v hv => ?_⟩
        rw [List.eq_of_mem_replicate hv]
        exact ⟨⟨by omega, by omega⟩, .inr rfl⟩
      · cases h2
    · cases h1
  · rw [if_neg e] at h1 h2
    exact h.2.2 p (List.mem_of_getElem? (List.getElem?_zip_eq_some.2 ⟨h1, h2⟩))
/-- the entry of a page turned, and its old frame given back if no page is left on it -/
theorem okM_turn {m : GMachine} (h : okM m) {p f0 : Nat} {d e : GEntry} (hd : m.Table.Entries[p]? = some d) (hd0 : d.Mode ≠ 0) (hf : d.Frame = (f0 : Int)) (he : okE (m.Frames.Cells.length : Int) e)
    (ho : e.Mode ≠ 0 → e.Frame = d.Frame ∨ ∃ (j : Nat) (x : GEntry), j ≠ p ∧ m.Table.Entries[j]? = some x ∧ x.Mode ≠ 0 ∧ x.Frame = e.Frame) : okM (dropped (setEntry m p e) f0) := by
  obtain ⟨h1, h2, h3⟩ := h
  rw [used_iff] at h3
  have hp : p < m.Table.Entries.length := (List.getElem?_eq_some_iff.1 hd).1
  have hT : pTableOk ⟨m.Table.Entries.set p e⟩ (m.Frames.Cells.length : Int) = true := okT_set h2 he
  have hsame : ∀ i : Nat, i ≠ f0 → (onF (i : Int) (m.Table.Entries.set p e) ↔ onF (i : Int) m.Table.Entries) := by
    intro i hi
    constructor
    · intro h
      rcases onF_set hp h with ⟨h5, h6⟩ | ⟨j, x, _, h5, h6⟩
      · rcases ho h5 with h7 | ⟨j, x, _, h7, h8, h9⟩
        · rw [h7, hf] at h6; exact absurd (by omega) hi
        · exact ⟨j, x, h7, h8, h9.trans h6⟩
      · exact ⟨j, x, h5, h6⟩
    · rintro ⟨j, x, h5, h6⟩
      by_cases hj : j = p
      · subst hj
        rw [hd] at h5
        obtain rfl := Option.some.inj h5
        rw [hf] at h6
        exact absurd (by have := h6.2; omega) hi
      · exact onF_keep hj h5 h6
  unfold dropped
  by_cases hz : (pPagesOn (setEntry m p e).Table (f0 : Int)).length = 0
  · rw [if_pos hz]
    have hz' : ¬ onF (f0 : Int) (m.Table.Entries.set p e) := by rw [← pages_iff ⟨m.Table.Entries.set p e⟩]; show ¬ 0 < (pPagesOn (setEntry m p e).Table (f0 : Int)).length; omega
    refine ⟨okF_drop h1 f0, by show pTableOk _ (((m.Frames.Cells.set f0 _).length : Nat) : Int) = true; rw [List.length_set]; exact hT, ?_⟩
    rw [used_iff]
    intro i hi
    have hi' : i < m.Frames.Used.length := by
      have : i < (m.Frames.Used.set f0 false).length := hi
      simpa using this
    show ((m.Frames.Used.set f0 false)[i]? = some true ∧ onF _ (m.Table.Entries.set p e)) ∨ ((m.Frames.Used.set f0 false)[i]? = some false ∧ ¬ onF _ (m.Table.Entries.set p e))
    rw [List.getElem?_set]
    by_cases e' : f0 = i
    · subst e'
      rw [if_pos rfl, if_pos hi']
      exact .inr ⟨rfl, hz'⟩
    · rw [if_neg e', hsame i (Ne.symm e')]
      exact h3 i hi'
  · rw [if_neg hz]
    have hz' : onF (f0 : Int) (m.Table.Entries.set p e) := by rw [← pages_iff ⟨m.Table.Entries.set p e⟩]; show 0 < (pPagesOn (setEntry m p e).Table (f0 : Int)).length; omega
    refine ⟨h1, hT, ?_⟩
    rw [used_iff]
    intro i hi
    show (m.Frames.Used[i]? = some true ∧ onF _ (m.Table.Entries.set p e)) ∨ (m.Frames.Used[i]? = some false ∧ ¬ onF _ (m.Table.Entries.set p e))
    by_cases e' : i = f0
    · subst e'
      have hon : onF (i : Int) m.Table.Entries := ⟨p, d, hd, hd0, hf⟩
      rcases h3 i hi with h5 | h5
      · exact .inl ⟨h5.1, hz'⟩
      · exact absurd hon h5.2
    · rw [hsame i e']
      exact h3 i hi
/-- the entry of a page that stays on its frame -/
theorem okM_same {m : GMachine} (h : okM m) {p : Nat} {d e : GEntry} (hd : m.Table.Entries[p]? = some d) (hd0 : d.Mode ≠ 0) (he0 : e.Mode ≠ 0) (hf : e.Frame = d.Frame) (he : okE (m.Frames.Cells.length : Int) e) : okM (setEntry m p e) := by
  obtain ⟨h1, h2, h3⟩ := h
  have hp : p < m.Table.Entries.length := (List.getElem?_eq_some_iff.1 hd).1
  refine ⟨h1, okT_set h2 he, ?_⟩
  rw [used_iff] at h3 ⊢
  intro i hi
  have hs : onF (i : Int) (m.Table.Entries.set p e) ↔ onF (i : Int) m.Table.Entries := by
    constructor
    · intro h
      rcases onF_set hp h with ⟨h5, h6⟩ | ⟨j, x, _, h5, h6⟩
      · exact ⟨p, d, hd, hd0, hf ▸ h6⟩
      · exact ⟨j, x, h5, h6⟩
    · rintro ⟨j, x, h5, h6⟩
      by_cases hj : j = p
      · subst hj
        rw [hd] at h5
        obtain rfl := Option.some.inj h5
        exact onF_new hp ⟨he0, hf ▸ h6.2⟩
      · exact onF_keep hj h5 h6
  show (m.Frames.Used[i]? = some true ∧ onF _ (m.Table.Entries.set p e)) ∨ (m.Frames.Used[i]? = some false ∧ ¬ onF _ (m.Table.Entries.set p e))
  rw [hs]
  exact h3 i hi
/-- a page that was not mapped, on a frame that was not used -/
theorem okM_new {m : GMachine} (h : okM m) {p f : Nat} {d : GEntry} (hd : m.Table.Entries[p]? = some d) (hd0 : d.Mode = 0) (hf : f < m.Frames.Used.length) (hu : m.Frames.Used[f]? = some false) : okM (setEntry ⟨⟨m.Frames.Cells, m.Frames.Used.set f true⟩, m.Table⟩ p ⟨2, (f : Int)⟩) := by
  obtain ⟨h1, h2, h3⟩ := h
  have hp : p < m.Table.Entries.length := (List.getElem?_eq_some_iff.1 hd).1
  have hlen : m.Frames.Used.length = m.Frames.Cells.length := h1.2.1
  refine ⟨ok_true h1 f, okT_set h2 (.inr ⟨.inr rfl, by show (0 : Int) ≤ (f : Int); omega, by show (f : Int) < ((m.Frames.Cells.length : Nat) : Int); omega⟩), ?_⟩
  rw [used_iff] at h3 ⊢
  intro i hi
  have hi' : i < m.Frames.Used.length := by
    have : i < (m.Frames.Used.set f true).length := hi
    simpa using this
  show ((m.Frames.Used.set f true)[i]? = some true ∧ onF _ (m.Table.Entries.set p _)) ∨ ((m.Frames.Used.set f true)[i]? = some false ∧ ¬ onF _ (m.Table.Entries.set p _))
  rw [List.getElem?_set]
  by_cases e : f = i
  · subst e
    rw [if_pos rfl, if_pos hi']
    exact .inl ⟨rfl, onF_new hp ⟨by show (2 : Int) ≠ 0; omega, rfl⟩⟩
  · rw [if_neg e]
    have hs : onF (i : Int) (m.Table.Entries.set p ⟨2, (f : Int)⟩) ↔ onF (i : Int) m.Table.Entries := by
      constructor
      · intro h
        rcases onF_set hp h with ⟨h5, h6⟩ | ⟨j, x, _, h5, h6⟩
        · have h7 : (f : Int) = i := h6; omega
        · exact ⟨j, x, h5, h6⟩
      · rintro ⟨j, x, h5, h6⟩
        by_cases hj : j = p
        · subst hj
          rw [hd] at h5
          obtain rfl := Option.some.inj h5
          exact absurd hd0 h6.1
        · exact onF_keep hj h5 h6
    rw [hs]
    exact h3 i hi'
theorem free_at {f : GFrames} (h : 0 ≤ pFree f) : ∃ i : Nat, pFree f = (i : Int) ∧ (pFree f).toNat = i ∧ i < f.Used.length ∧ f.Used[i]? = some false := by
  have key : ∀ (l : List Bool) (k : Nat), 0 ≤ freeAt k l → ∃ i : Nat, freeAt k l = ((k + i : Nat) : Int) ∧ l[i]? = some false := by
    intro l
    induction l with
    | nil => intro k h; unfold freeAt at h; exact absurd h (by omega)
    | cons u l ih =>
      intro k h
      unfold freeAt at h ⊢
      cases u with
      | false => exact ⟨0, by simp, rfl⟩
      | true =>
        simp only [↓reduceIte, Bool.false_eq_true, Bool.true_eq_false] at h ⊢
        obtain ⟨i, h1, h2⟩ := ih (k + 1) h
        exact ⟨i + 1, by rw [h1]; omega, by simpa using h2⟩
  obtain ⟨i, h1, h2⟩ := key f.Used 0 h
  rw [Nat.zero_add] at h1
  exact ⟨i, h1, by show (freeAt 0 f.Used).toNat = i; rw [h1]; rfl, (List.getElem?_eq_some_iff.1 h2).1, h2⟩
theorem okK_call {k : GKernel} (h : canCall k) {m : GMachine} (hm : okM m) : okK ⟨m, k.Calls + 1, k.Refuse⟩ := ⟨hm, ⟨by have := h.1.2.1.1; show 0 ≤ k.Calls + 1; omega, by have := h.2; show k.Calls + 1 ≤ 100000; omega⟩, h.1.2.2⟩
/-- what a call leaves: valid; one call more; the machine as0 it was, where it was refused -/
structure CallLaw (k k' : GKernel) (b : Bool) (c : Int) : Prop where
  ok : okK k'
  calls : k'.Calls = k.Calls + c
  same : b = false → k'.Machine = k.Machine
theorem law_new {k : GKernel} (h : canCall k) (page : Int) : CallLaw k (pKMapNew k page).1 (pKMapNew k page).2 1 := by
  unfold pKMapNew
  rw [if_pos h]
  unfold pNew
  split
  · rename_i hc
    obtain ⟨i, h1, h2, h3, h4⟩ := free_at hc.2.2.2
    refine ⟨okK_call h ?_, rfl, (fun hb => nomatch hb)⟩
    rw [h2, h1]
    refine okM_new h.1.1 (p := page.toNat) (d := pPageEntry k.Machine.Table page) ?_ hc.2.2.1 h3 h4
    unfold pPageEntry
    rw [if_pos hc.2.1, List.getD_eq_getElem?_getD, List.getElem?_eq_getElem (by have := hc.2.1; omega)]; rfl
  · exact ⟨okK_call h h.1.1, rfl, fun _ => rfl⟩
end Tr
end Go.Proofs.YtlkkiopjknbomaaGreatDoor
namespace Go.Proofs.YtlkkiopjknbomaaGreatDoor
open Go.RowKit
set_option linter.unusedVariables false
set_option linter.unusedSimpArgs false
set_option maxRecDepth 100000
namespace Eng
open Tr
/-- refused calls as0 they are drawn, and the cursor -/
def rS (bs : List Int) (c : Cu) : Nat → List Int × Cu
  | 0 => ([], c)
  | i + 1 => ((rS bs c i).1 ++ [(dBelow bs (dBelow bs (rS bs c i).2 4).2 12).1], (dBelow bs (dBelow bs (rS bs c i).2 4).2 12).2)
def rGo (bs : List Int) : Nat → Nat → List Int × Cu → List Int × Cu
  | 0, _, s => (s.1, (dBelow bs s.2 4).2)
  | f + 1, i, s => if (i : Int) < (dBelow bs s.2 4).1 then rGo bs f (i + 1) (s.1 ++ [(dBelow bs (dBelow bs s.2 4).2 12).1], (dBelow bs (dBelow bs s.2 4).2 12).2) else (s.1, (dBelow bs s.2 4).2)
def dRef (bs : List Int) (c : Cu) : List Int × Cu := rGo bs 4 0 ([], c)
theorem rS_ok {bs : List Int} {c : Cu} (h : okCu bs c) : ∀ i, okCu bs (rS bs c i).2
  | 0 => h
  | i + 1 => dBelow_ok _ (dBelow_ok _ (rS_ok h i))
theorem rS_len (bs : List Int) (c : Cu) : ∀ i, (rS bs c i).1.length = i
  | 0 => rfl
  | i + 1 => by show ((rS bs c i).1 ++ [_]).length = _; rw [List.length_append, rS_len bs c i]; rfl
theorem rGo_facts (bs : List Int) : ∀ (f i : Nat) (s : List Int × Cu), okCu bs s.2 → (∀ x ∈ s.1, 0 ≤ x) → okCu bs (rGo bs f i s).2 ∧ (∀ x ∈ (rGo bs f i s).1, 0 ≤ x) ∧ (rGo bs f i s).1.length ≤ s.1.length + f
  | 0, i, s, h1, h2 => ⟨dBelow_ok _ h1, h2, Nat.le_refl _⟩
  | f + 1, i, s, h1, h2 => by
    unfold rGo
    split
    · have hw := dBelow_lt bs (dBelow bs s.2 4).2 12 (by decide)
      obtain ⟨k1, k2, k3⟩ := rGo_facts bs f (i + 1) (s.1 ++ [(dBelow bs (dBelow bs s.2 4).2 12).1], (dBelow bs (dBelow bs s.2 4).2 12).2) (dBelow_ok _ (dBelow_ok _ h1)) (by
        intro x hx
        rw [List.mem_append, List.mem_singleton] at hx
        rcases hx with hx | hx
        · exact h2 x hx
        · rw [hx]; exact hw.1)
      refine ⟨k1, k2, Nat.le_trans k3 ?_⟩
      simp only [List.length_append, List.length_cons, List.length_nil]
      omega
    · exact ⟨dBelow_ok _ h1, h2, by show s.1.length ≤ _; omega⟩
theorem rGo_in (bs : List Int) {f i : Nat} {s : List Int × Cu} (h : (i : Int) < (dBelow bs s.2 4).1) (hf : f = 4 - i) : rGo bs f i s = rGo bs (4 - (i + 1)) (i + 1) (s.1 ++ [(dBelow bs (dBelow bs s.2 4).2 12).1], (dBelow bs (dBelow bs s.2 4).2 12).2) := by
  have h4 := dBelow_lt bs s.2 4 (by decide)
  rw [show f = (4 - (i + 1)) + 1 by omega]
  exact if_pos h
theorem rGo_out (bs : List Int) {f i : Nat} {s : List Int × Cu} (h : ¬ (i : Int) < (dBelow bs s.2 4).1) : rGo bs f i s = (s.1, (dBelow bs s.2 4).2) := by
  cases f with
  | zero => rfl
  | succ f => exact if_neg h
end Eng
end Go.Proofs.YtlkkiopjknbomaaGreatDoor
namespace Go.Proofs.YtlkkiopjknbomaaGreatDoor
open Go.RowKit
set_option linter.unusedVariables false
namespace Tr
/-- the cell before number i -/
def lastV (l : List Int) : Nat → Int
  | 0 => -1
  | i + 1 => l.getD i 0
def okAt (l : List Int) (i : Nat) : Prop := lastV l i < l.getD i 0 ∧ 0 ≤ l.getD i 0 ∧ l.getD i 0 ≤ 15
instance (l : List Int) (i : Nat) : Decidable (okAt l i) := by unfold okAt; infer_instance
def asc (l : List Int) : Prop := ∀ i, i < l.length → okAt l i
instance (l : List Int) : Decidable (asc l) := by unfold asc; infer_instance
def plOk (p : GPlan) : Prop := p.Keep ≠ p.Move ∧ (0 ≤ p.Keep ∧ p.Keep ≤ 31) ∧ (0 ≤ p.Move ∧ p.Move ≤ 31) ∧ asc p.Cells
instance (p : GPlan) : Decidable (plOk p) := by unfold plOk; infer_instance
def pPlanOk (p : GPlan) : Bool := decide (plOk p)
/-- the first i cells taken from move -/
def mgTo (keep move cells : List Int) : Nat → List Int
  | 0 => keep
  | i + 1 => (mgTo keep move cells i).set (cells.getD i 0).toNat (move.getD (cells.getD i 0).toNat 0)
def mgOk (keep move : List Int) (p : GPlan) : Prop := plOk p ∧ keep.length = 16 ∧ move.length = 16
instance (keep move : List Int) (p : GPlan) : Decidable (mgOk keep move p) := by unfold mgOk; infer_instance
def pMergedText (keep move : List Int) (p : GPlan) : List Int := if mgOk keep move p then mgTo keep move p.Cells p.Cells.length else []
theorem mgTo_len (keep move cells : List Int) : ∀ i, (mgTo keep move cells i).length = keep.length
  | 0 => rfl
  | i + 1 => by unfold mgTo; rw [List.length_set, mgTo_len keep move cells i]
theorem asc_at {l : List Int} (h : asc l) {i : Nat} (hi : i < l.length) : 0 ≤ l.getD i 0 ∧ l.getD i 0 ≤ 15 := (h i hi).2
theorem asc_ge {l : List Int} (h : asc l) : ∀ i, i < l.length → (i : Int) ≤ l.getD i 0
  | 0, hi => (h 0 hi).2.1
  | i + 1, hi => by
    have h1 := asc_ge h i (by omega)
    have h2 : l.getD i 0 < l.getD (i + 1) 0 := (h (i + 1) hi).1
    omega
theorem asc_len {l : List Int} (h : asc l) : l.length ≤ 16 := by
  rcases Nat.lt_or_ge 16 l.length with h1 | h1
  · have h2 := asc_ge h 16 h1
    have h3 := (asc_at h h1).2
    omega
  · exact h1
/-- what a merged text holds -/
theorem mgTo_at {keep move cells : List Int} (hk : keep.length = 16) (hc : asc cells) {j : Nat} (hj : j < 16) : ∀ i, i ≤ cells.length → (mgTo keep move cells i).getD j 0 = if (∃ k, k < i ∧ cells.getD k 0 = (j : Int)) then move.getD j 0 else keep.getD j 0
  | 0, _ => by rw [if_neg (fun ⟨_, h, _⟩ => by omega)]; rfl
  | i + 1, hi => by
    have ih := mgTo_at (move := move) hk hc hj i (by omega)
    have hr := asc_at hc (i := i) (by omega)
    have hl := mgTo_len keep move cells i
    show ((mgTo keep move cells i).set (cells.getD i 0).toNat (move.getD (cells.getD i 0).toNat 0)).getD j 0 = _
    by_cases e : cells.getD i 0 = (j : Int)
    · rw [if_pos ⟨i, by omega, e⟩, e, Int.toNat_natCast, List.getD_eq_getElem?_getD, List.getElem?_set_self (by omega)]
      rfl
    · rw [List.getD_eq_getElem?_getD, List.getElem?_set_ne (by omega), ← List.getD_eq_getElem?_getD, ih]
      by_cases h : ∃ k, k < i ∧ cells.getD k 0 = (j : Int)
      · obtain ⟨k, h1, h2⟩ := h
        rw [if_pos ⟨k, h1, h2⟩, if_pos ⟨k, by omega, h2⟩]
      · rw [if_neg h, if_neg]
        rintro ⟨k, h1, h2⟩
        by_cases ek : k = i
        · exact e (ek ▸ h2)
        · exact h ⟨k, by omega, h2⟩
theorem asc_snoc {l : List Int} {x : Int} (h : asc l) (hx : ∀ y ∈ l, y < x) (h0 : 0 ≤ x ∧ x ≤ 15) : asc (l ++ [x]) := by
  intro i hi
  rw [List.length_append, List.length_cons, List.length_nil] at hi
  have hg : ∀ j, j < l.length → (l ++ [x]).getD j 0 = l.getD j 0 := fun j hj => by
    rw [List.getD_eq_getElem?_getD, List.getElem?_append_left hj, ← List.getD_eq_getElem?_getD]
  have hl : ∀ j, j ≤ l.length → lastV (l ++ [x]) j = lastV l j := fun j hj => by
    cases j with
    | zero => rfl
    | succ j => exact hg j (by omega)
  unfold okAt
  rw [hl i (by omega)]
  by_cases e : i < l.length
  · rw [hg i e]; exact h i e
  · obtain rfl : i = l.length := by omega
    have hv : (l ++ [x]).getD l.length 0 = x := by rw [List.getD_eq_getElem?_getD, List.getElem?_append_right (Nat.le_refl _), Nat.sub_self]; rfl
    rw [hv]
    refine ⟨?_, h0⟩
    cases hn : l.length with
    | zero => show (-1 : Int) < x; omega
    | succ j =>
      refine hx _ ?_
      show l.getD j 0 ∈ l
      rw [List.getD_eq_getElem?_getD, List.getElem?_eq_getElem (by omega)]
      exact List.getElem_mem _
end Tr
end Go.Proofs.YtlkkiopjknbomaaGreatDoor
namespace Go.Proofs.YtlkkiopjknbomaaGreatDoor
open Go.RowKit
set_option linter.unusedVariables false
set_option linter.unusedSimpArgs false
set_option maxRecDepth 100000
namespace Eng
open Tr
theorem ok_next {l : List Int} {i : Nat} (hi : ∀ k, k < i → okAt l k) (h : okAt l i) : ∀ k, k < i + 1 → okAt l k := fun k hk => by
  by_cases e : k = i
  · exact e ▸ h
  · exact hi k (by omega)
theorem plan_no {p : GPlan} {i : Nat} (hi : i < p.Cells.length) (h : ¬ okAt p.Cells i) : pPlanOk p = false := decide_eq_false fun hp => h (hp.2.2.2 i hi)
theorem okAt_iff {l : List Int} {i : Nat} : okAt l i ↔ (0 ≤ l.getD i 0 ∧ l.getD i 0 ≤ 15) ∧ ((i : Int) ≤ 0 ∨ l.getD (i - 1) 0 < l.getD i 0) := by
  cases i with
  | zero =>
    show (-1 < _ ∧ _) ↔ _
    omega
  | succ i =>
    show (l.getD i 0 < _ ∧ _) ↔ _
    rw [Nat.add_sub_cancel]
    omega
theorem plan_yes {p : GPlan} {i : Nat} (h : ∀ k, k < i → okAt p.Cells k) (hi : p.Cells.length ≤ i) : pPlanOk p = (bif bif inB p.Keep 0 31 then inB p.Move 0 31 else false then p.Keep != p.Move else false) := by
  have ha : asc p.Cells := fun k hk => h k (by omega)
  rw [Bool.eq_iff_iff]
  unfold pPlanOk
  rw [decide_eq_true_eq]
  simp only [inB, Bool.cond_false_right, Bool.and_eq_true, decide_eq_true_eq, bne_iff_ne]
  unfold plOk
  exact ⟨fun h => ⟨⟨h.2.1, h.2.2.1⟩, h.1⟩, fun h => ⟨h.2, h.1.1, h.1.2, ha⟩⟩
def c_PlanOkS (p : GPlan) : CFD := ⟨53, [.agg [(CV.lit (.int .i64 (p.Keep))), (CV.lit (.int .i64 (p.Move))), ro 3 1 Tr.eI p.Cells]], [], (TV.sv (.one (.lit (.bool (pPlanOk p))))), [], [], []⟩
theorem fn_PlanOkS (p : GPlan) (hl : p.Cells.length ≤ 1048576) : Fn Tryz.prog (c_PlanOkS p) := by
  refine fn_intro tt_ok Tryz.func53 rfl Tryz.call53 Tryz.ntmps53 Tryz.results53 rfl rfl rfl rfl ?_
  intro X ρ0 hb_ hgl_
  dsimp only [c_PlanOkS]
  try refine nrm ?_
  repeat' (refine ar_id ?_; first | refine st1 ?_ | (first | ((first | refine ar_region tt_ok (inps := []) rfl ?_ ?_); rotate_left; (try refine nrm ?_); rotate_right) | refine ret3 ?_ | refine end3 ?_) | (refine ar_cond rfl trivial ?_ ?_ <;> intro hc_ <;> (try simp only [isNilI, inB, reduceCtorEq, cds] at hc_) <;> (try (first | contradiction | (exfalso; omega)))) | refine ar_until (And.intro ?_ (wk3 ?_)))
  all_goals (first | refine ar_id ?_ | (try (focus ((try refine nrmO ?_); (repeat' (first | exact True.intro | refine And.intro ?_ ?_)); all_goals (try (intro (hg_ : _ = true); (try simp only [isNilI, inB, reduceCtorEq, cds] at hg_); (repeat' (first | exact True.intro | refine And.intro ?_ ?_)))); all_goals (first | exact ob1 | skip)))))
  refine ar_keep 15 (by dsimp only [keepS] <;> exact rfl) ?_
  refine ar_forM (p.Cells.length) (fun i => ∀ k, k < i → okAt p.Cells k) (fun i => [(3, (TV.sv (.one (.lit (.int .i64 (i))))))]) (fun i => []) ?_ ?_ ?_
  rotate_left
  · first | trivial | simp
  (dsimp only [rnCap, capSVs, Int.toNat_natCast, ro, Nat.reduceAdd, Nat.reduceMul, Nat.zero_add, List.map, putT, app, wrapG, gOb, argT, keys, slotOf, dropped, gAnd, wB, rnT, rnS, rnC, rnCs, rnSs, rnM, rnB, rnN, rn, lk, St.over, ded, delL, keepT, menT, menSs, menS, menCs, menC, hasN, resT, SV.cells]; refine wk3 ?_; (focus ((try refine nrmO ?_); (repeat' (first | exact True.intro | refine And.intro ?_ ?_)); all_goals (try (intro (hg_ : _ = true); (try simp only [isNilI, inB, reduceCtorEq, cds] at hg_); (repeat' (first | exact True.intro | refine And.intro ?_ ?_)))); all_goals (first | exact ob1 | exact rfl | skip))))
  rotate_right
  intro i hi_ hiI_
  dsimp only [rnCap, capSVs, Int.toNat_natCast, ro, Nat.reduceAdd, Nat.reduceMul, Nat.zero_add, List.map, putT, app, wrapG, gOb, argT, keys, slotOf, dropped, gAnd, wB, rnT, rnS, rnC, rnCs, rnSs, rnM, rnB, rnN, rn, lk, St.over, ded, delL, keepT, menT, menSs, menS, menCs, menC, hasN, resT, SV.cells]
  repeat' (refine ar_id ?_; first | refine st1 ?_ | (refine ar_drawS (id := 4) tt_ok (by kernel_rfl) [.elem (Tr.eI (p.Cells.getD i 0)), .call (c_In (p.Cells.getD i 0) 0 15), .elem (Tr.eI (p.Cells.getD (i - 1) 0)), .elem (Tr.eI (p.Cells.getD i 0))] ?_; refine ed_hide ?_; intro K_ hK_; repeat' (first | ((first | refine ed_call3 ?_ | refine ed_sure3 ?_ | refine ed_cons3 ?_); refine ed_hide ?_; intro K_ hK_; (try dsimp only [c_In]); (try refine nrmE ?_)) | (refine ed_nil ?_; (repeat subst hK_); dsimp only; refine Exists.intro _ (And.intro rfl (And.intro (by kernel_rfl) (And.intro ?_ ?_))); rotate_left; (try dsimp only [c_In]); (try refine nrm ?_); rotate_right))) | (first | ((first | refine ar_region (id := 6) tt_ok (inps := [.call (c_In p.Keep 0 31), .call (c_In p.Move 0 31)]) rfl ?_ ?_ | refine ar_region tt_ok (inps := []) rfl ?_ ?_); rotate_left; (try dsimp only [c_In]); (try refine nrm ?_); rotate_right) | refine ret3 ?_ | refine end3 ?_) | (refine ar_cond rfl trivial ?_ ?_ <;> intro hc_ <;> (try simp only [isNilI, inB, reduceCtorEq, cds] at hc_) <;> (try (first | contradiction | (exfalso; omega)))) | refine ar_until (And.intro ?_ (wk3 ?_)))
  all_goals (first | refine ar_id ?_ | (try (focus ((try refine nrmO ?_); (repeat' (first | exact True.intro | refine And.intro ?_ ?_)); all_goals (try (intro (hg_ : _ = true); (try simp only [isNilI, inB, reduceCtorEq, cds] at hg_); (repeat' (first | exact True.intro | refine And.intro ?_ ?_)))); all_goals (first | exact ob1 | exact fn_In _ _ _ | skip)))))
  · rw [plan_no (i := i) (by omega) (by rw [okAt_iff]; omega)]
  · exact ok_next hiI_ (okAt_iff.2 hc_)
  · rw [show ((i : Int) - 1).toNat = i - 1 by omega]
    exact elem_map (fun _ => rfl) (getD_at (by omega))
  · rw [plan_yes hiI_ (by omega)]
theorem mg_next {keep move cells : List Int} {i : Nat} : ((mgTo keep move cells i).map Tr.eI).set (cells.getD i 0).toNat (Tr.eI (move.getD (cells.getD i 0).toNat 0)) = (mgTo keep move cells (i + 1)).map Tr.eI := by
  rw [← List.map_set]; rfl
def c_MergedS (keep move : List Int) (p : GPlan) : CFD := ⟨18, [.one (ro 3 1 Tr.eI keep), .one (ro 3 1 Tr.eI move), .agg [(CV.lit (.int .i64 (p.Keep))), (CV.lit (.int .i64 (p.Move))), ro 3 1 Tr.eI p.Cells]], [], .sv (.one (.hd 0)), [(0, some (.row 3 1 ((pMergedText keep move p).map Tr.eI)))], [0], []⟩
theorem fn_MergedS (keep move : List Int) (p : GPlan) (hk : keep.length ≤ 1048576) (hm : move.length ≤ 1048576) (hl : p.Cells.length ≤ 1048576) : Fn Tryz.prog (c_MergedS keep move p) := by
  by_cases h : mgOk keep move p
  · have hV : pMergedText keep move p = mgTo keep move p.Cells p.Cells.length := if_pos h
    obtain ⟨h1, h2, h3⟩ := h
    have hok : pPlanOk p = true := decide_eq_true h1
    have hc : ∀ i, i < p.Cells.length → 0 ≤ p.Cells.getD i 0 ∧ p.Cells.getD i 0 ≤ 15 := fun i hi => asc_at h1.2.2.2 hi
    have hml := mgTo_len keep move p.Cells
    refine fn_intro tt_ok Tryz.func18 rfl Tryz.call18 Tryz.ntmps18 Tryz.results18 rfl rfl rfl rfl ?_
    intro X ρ0 hb_ hgl_
    dsimp only [c_MergedS]
    try refine nrm ?_
    rw [hV]
    repeat' (refine ar_id ?_; first | refine st1 ?_ | (first | ((first | refine ar_region (id := 1) tt_ok (inps := [.call (c_PlanOkS p)]) rfl ?_ ?_ | refine ar_region (id := 3) tt_ok (inps := [.elems (keep.map Tr.eI)]) rfl ?_ ?_ | refine ar_region tt_ok (inps := []) rfl ?_ ?_); rotate_left; (try dsimp only [c_PlanOkS]); (try refine nrm ?_); rotate_right) | refine ret3 ?_ | refine end3 ?_) | (refine ar_cond rfl trivial ?_ ?_ <;> intro hc_ <;> (try simp only [isNilI, inB, reduceCtorEq, cds] at hc_) <;> (try (first | contradiction | (exfalso; omega) | (exfalso; grind)))) | refine ar_until (And.intro ?_ (wk3 ?_)))
    all_goals (first | refine ar_id ?_ | (try (focus ((try refine nrmO ?_); (repeat' (first | exact True.intro | refine And.intro ?_ ?_)); all_goals (try (intro (hg_ : _ = true); (try simp only [isNilI, inB, reduceCtorEq, cds] at hg_); (repeat' (first | exact True.intro | refine And.intro ?_ ?_)))); all_goals (first | exact ob1 | exact fn_PlanOkS p hl | exact flat_map' keep (fun x => ⟨rfl, rfl, trivial⟩) | skip)))))
    refine ar_keep 487 (by dsimp only [keepS] <;> exact rfl) ?_
    refine ar_forM (p.Cells.length) (fun i => True) (fun i => [(8, (TV.sv (.one (.lit (.int .i64 (i)))))), (7, (TV.sv (.one (.hd 25))))]) (fun i => [(25, some (.row 3 1 ((mgTo keep move p.Cells i).map Tr.eI)))]) ?_ ?_ ?_
    rotate_left
    · first | trivial | simp
    (dsimp only [rnCap, capSVs, Int.toNat_natCast, ro, Nat.reduceAdd, Nat.reduceMul, Nat.zero_add, List.map, putT, app, wrapG, gOb, argT, keys, slotOf, dropped, gAnd, wB, rnT, rnS, rnC, rnCs, rnSs, rnM, rnB, rnN, rn, lk, St.over, ded, delL, keepT, menT, menSs, menS, menCs, menC, hasN, resT, SV.cells]; refine wk3 ?_; (focus ((try refine nrmO ?_); (repeat' (first | exact True.intro | refine And.intro ?_ ?_)); all_goals (try (intro (hg_ : _ = true); (try simp only [isNilI, inB, reduceCtorEq, cds] at hg_); (repeat' (first | exact True.intro | refine And.intro ?_ ?_)))); all_goals (first | exact ob1 | exact rfl | skip))))
    rotate_right
    intro i hi_ hiI_
    dsimp only [rnCap, capSVs, Int.toNat_natCast, ro, Nat.reduceAdd, Nat.reduceMul, Nat.zero_add, List.map, putT, app, wrapG, gOb, argT, keys, slotOf, dropped, gAnd, wB, rnT, rnS, rnC, rnCs, rnSs, rnM, rnB, rnN, rn, lk, St.over, ded, delL, keepT, menT, menSs, menS, menCs, menC, hasN, resT, SV.cells]
    have hci := hc i
    have hmi := hml i
    repeat' (refine ar_id ?_; first | refine st1 ?_ | (refine ar_drawS (id := 7) tt_ok (by kernel_rfl) [.elem (Tr.eI (p.Cells.getD i 0)), .elem (Tr.eI (p.Cells.getD i 0)), .elem (Tr.eI (move.getD (p.Cells.getD i 0).toNat 0)), .elem (Tr.eI ((mgTo keep move p.Cells i).getD (p.Cells.getD i 0).toNat 0))] ?_; refine ed_hide ?_; intro K_ hK_; repeat' (first | ((first | refine ed_call3 ?_ | refine ed_sure3 ?_ | refine ed_cons3 ?_); refine ed_hide ?_; intro K_ hK_; (try refine nrmE ?_)) | (refine ed_nil ?_; (repeat subst hK_); dsimp only; refine Exists.intro _ (And.intro rfl (And.intro (by kernel_rfl) (And.intro ?_ ?_))); rotate_left; (try refine nrm ?_); rotate_right))) | (first | ((first | refine ar_region tt_ok (inps := []) rfl ?_ ?_); rotate_left; (try refine nrm ?_); rotate_right) | refine ret3 ?_ | refine end3 ?_) | (refine ar_cond rfl trivial ?_ ?_ <;> intro hc_ <;> (try simp only [isNilI, inB, reduceCtorEq, cds] at hc_) <;> (try (first | contradiction | (exfalso; omega)))) | refine ar_until (And.intro ?_ (wk3 ?_)))
    all_goals (first | refine ar_id ?_ | (try (focus ((try refine nrmO ?_); (repeat' (first | exact True.intro | refine And.intro ?_ ?_)); all_goals (try (intro (hg_ : _ = true); (try simp only [isNilI, inB, reduceCtorEq, cds] at hg_); (repeat' (first | exact True.intro | refine And.intro ?_ ?_)))); all_goals (first | exact ob1 | skip)))))
    · rw [← mg_next]; rfl
    · rw [show i = p.Cells.length by omega]
  · have hV : pMergedText keep move p = [] := if_neg h
    have h' : ¬ (pPlanOk p = true ∧ keep.length = 16 ∧ move.length = 16) := fun hh => h ⟨of_decide_eq_true hh.1, hh.2⟩
    refine fn_intro tt_ok Tryz.func18 rfl Tryz.call18 Tryz.ntmps18 Tryz.results18 rfl rfl rfl rfl ?_
    intro X ρ0 hb_ hgl_
    dsimp only [c_MergedS]
    try refine nrm ?_
    rw [hV]
    repeat' (refine ar_id ?_; first | refine st1 ?_ | (first | ((first | refine ar_region (id := 1) tt_ok (inps := [.call (c_PlanOkS p)]) rfl ?_ ?_ | refine ar_region tt_ok (inps := []) rfl ?_ ?_); rotate_left; (try dsimp only [c_PlanOkS]); (try refine nrm ?_); rotate_right) | refine ret3 ?_ | refine end3 ?_) | (refine ar_cond rfl trivial ?_ ?_ <;> intro hc_ <;> (try simp only [isNilI, inB, reduceCtorEq, cds] at hc_) <;> (try (first | contradiction | (exfalso; omega) | (exfalso; exact h' ⟨by grind, by omega, by omega⟩)))) | refine ar_until (And.intro ?_ (wk3 ?_)))
    all_goals (first | refine ar_id ?_ | (try (focus ((try refine nrmO ?_); (repeat' (first | exact True.intro | refine And.intro ?_ ?_)); all_goals (try (intro (hg_ : _ = true); (try simp only [isNilI, inB, reduceCtorEq, cds] at hg_); (repeat' (first | exact True.intro | refine And.intro ?_ ?_)))); all_goals (first | exact ob1 | exact fn_PlanOkS p hl | skip)))))
end Eng
end Go.Proofs.YtlkkiopjknbomaaGreatDoor
namespace Go.Proofs.YtlkkiopjknbomaaGreatDoor
open Go.RowKit
set_option linter.unusedVariables false
set_option linter.unusedSimpArgs false
namespace Tr
def okJ (j : GJob) : Prop := plOk j.Plan ∧ (0 ≤ j.Phase ∧ j.Phase ≤ 5) ∧ 0 ≤ j.Next ∧ j.Next ≤ (j.Plan.Cells.length : Int)
instance (j : GJob) : Decidable (okJ j) := by unfold okJ; infer_instance
def pJobOk (j : GJob) : Bool := decide (okJ j)
def noJ : GJob := ⟨⟨0, 0, []⟩, 0, 0⟩
def pJobNew (p : GPlan) : GJob × Bool := if plOk p then (⟨p, 0, 0⟩, true) else (noJ, false)
def pJobActive (j : GJob) : Bool := decide (okJ j ∧ 1 ≤ j.Phase ∧ j.Phase ≤ 3)
def overJ (j : GJob) : Prop := j.Phase = 4 ∨ j.Phase = 5
instance (j : GJob) : Decidable (overJ j) := by unfold overJ; infer_instance
end Tr
end Go.Proofs.YtlkkiopjknbomaaGreatDoor
namespace Go.Proofs.YtlkkiopjknbomaaGreatDoor
open Go.RowKit
set_option linter.unusedVariables false
set_option linter.unusedSimpArgs false
set_option maxRecDepth 100000
namespace Eng
open Tr
def c_CopyJ (j : GJob) : CFD := ⟨56, [.agg [(CV.lit (.int .i64 (j.Plan.Keep))), (CV.lit (.int .i64 (j.Plan.Move))), ro 3 1 Tr.eI j.Plan.Cells, (CV.lit (.int .i64 (j.Phase))), (CV.lit (.int .i64 (j.Next)))]], [], .sv (.agg [(CV.lit (.int .i64 (j.Plan.Keep))), (CV.lit (.int .i64 (j.Plan.Move))), .hd 0, (CV.lit (.int .i64 (j.Phase))), (CV.lit (.int .i64 (j.Next)))]), [(0, some (.row 3 1 (j.Plan.Cells.map Tr.eI)))], [0], []⟩
theorem fn_CopyJ (j : GJob) (hl : j.Plan.Cells.length ≤ 1048576) : Fn Tryz.prog (c_CopyJ j) := by
  refine fn_intro tt_ok Tryz.func56 rfl Tryz.call56 Tryz.ntmps56 Tryz.results56 rfl rfl rfl rfl ?_
  intro X ρ0 hb_ hgl_
  dsimp only [c_CopyJ]
  try refine nrm ?_
  repeat' (refine ar_id ?_; first | refine st1 ?_ | (first | ((first | refine ar_region (id := 1) tt_ok (inps := [.elems (j.Plan.Cells.map Tr.eI)]) rfl ?_ ?_ | refine ar_region tt_ok (inps := []) rfl ?_ ?_); rotate_left; (try refine nrm ?_); rotate_right) | refine ret3 ?_ | refine end3 ?_) | (refine ar_cond rfl trivial ?_ ?_ <;> intro hc_ <;> (try simp only [isNilI, inB, reduceCtorEq, cds] at hc_) <;> (try (first | contradiction | (exfalso; omega)))) | refine ar_until (And.intro ?_ (wk3 ?_)))
  all_goals (first | refine ar_id ?_ | (try (focus ((try refine nrmO ?_); (repeat' (first | exact True.intro | refine And.intro ?_ ?_)); all_goals (try (intro (hg_ : _ = true); (try simp only [isNilI, inB, reduceCtorEq, cds] at hg_); (repeat' (first | exact True.intro | refine And.intro ?_ ?_)))); all_goals (first | exact ob1 | exact flat_map' j.Plan.Cells (fun x => ⟨rfl, rfl, trivial⟩) | skip)))))
def c_JobNewS (p : GPlan) : CFD := ⟨21, [.agg [(CV.lit (.int .i64 (p.Keep))), (CV.lit (.int .i64 (p.Move))), ro 3 1 Tr.eI p.Cells]], [], .tup [.agg [(CV.lit (.int .i64 (((pJobNew p).1).Plan.Keep))), (CV.lit (.int .i64 (((pJobNew p).1).Plan.Move))), .hd 0, (CV.lit (.int .i64 (((pJobNew p).1).Phase))), (CV.lit (.int .i64 (((pJobNew p).1).Next)))], (SV.one (.lit (.bool ((pJobNew p).2))))], [(0, some (.row 3 1 (((pJobNew p).1).Plan.Cells.map Tr.eI)))], [0], []⟩
theorem fn_JobNewS (p : GPlan) (hl : p.Cells.length ≤ 1048576) : Fn Tryz.prog (c_JobNewS p) := by
  by_cases h : plOk p
  · have hok : pPlanOk p = true := decide_eq_true h
    have hV : pJobNew p = (⟨p, 0, 0⟩, true) := if_pos h
    refine fn_intro tt_ok Tryz.func21 rfl Tryz.call21 Tryz.ntmps21 Tryz.results21 rfl rfl rfl rfl ?_
    intro X ρ0 hb_ hgl_
    dsimp only [c_JobNewS]
    try refine nrm ?_
    rw [hV]
    repeat' (refine ar_id ?_; first | refine st1 ?_ | (first | ((first | refine ar_region (id := 1) tt_ok (inps := [.call (c_PlanOkS p)]) rfl ?_ ?_ | refine ar_region (id := 3) tt_ok (inps := [.call (c_CopyJ ⟨p, 0, 0⟩)]) rfl ?_ ?_ | refine ar_region tt_ok (inps := []) rfl ?_ ?_); rotate_left; (try dsimp only [c_CopyJ, c_PlanOkS]); (try refine nrm ?_); rotate_right) | refine ret3 ?_ | refine end3 ?_) | (refine ar_cond rfl trivial ?_ ?_ <;> intro hc_ <;> (try simp only [isNilI, inB, reduceCtorEq, cds] at hc_) <;> (try (first | contradiction | (exfalso; omega) | (exfalso; grind)))) | refine ar_until (And.intro ?_ (wk3 ?_)))
    all_goals (first | refine ar_id ?_ | (try (focus ((try refine nrmO ?_); (repeat' (first | exact True.intro | refine And.intro ?_ ?_)); all_goals (try (intro (hg_ : _ = true); (try simp only [isNilI, inB, reduceCtorEq, cds] at hg_); (repeat' (first | exact True.intro | refine And.intro ?_ ?_)))); all_goals (first | exact ob1 | exact fn_PlanOkS p hl | exact fn_CopyJ ⟨p, 0, 0⟩ hl | skip)))))
  · have hok : pPlanOk p = false := decide_eq_false h
    have hV : pJobNew p = (noJ, false) := if_neg h
    refine fn_intro tt_ok Tryz.func21 rfl Tryz.call21 Tryz.ntmps21 Tryz.results21 rfl rfl rfl rfl ?_
    intro X ρ0 hb_ hgl_
    dsimp only [c_JobNewS]
    try refine nrm ?_
    rw [hV]
    repeat' (refine ar_id ?_; first | refine st1 ?_ | (first | ((first | refine ar_region (id := 1) tt_ok (inps := [.call (c_PlanOkS p)]) rfl ?_ ?_ | refine ar_region tt_ok (inps := []) rfl ?_ ?_); rotate_left; (try dsimp only [c_PlanOkS]); (try refine nrm ?_); rotate_right) | refine ret3 ?_ | refine end3 ?_) | (refine ar_cond rfl trivial ?_ ?_ <;> intro hc_ <;> (try simp only [isNilI, inB, reduceCtorEq, cds] at hc_) <;> (try (first | contradiction | (exfalso; omega) | (exfalso; grind)))) | refine ar_until (And.intro ?_ (wk3 ?_)))
    all_goals (first | refine ar_id ?_ | (try (focus ((try refine nrmO ?_); (repeat' (first | exact True.intro | refine And.intro ?_ ?_)); all_goals (try (intro (hg_ : _ = true); (try simp only [isNilI, inB, reduceCtorEq, cds] at hg_); (repeat' (first | exact True.intro | refine And.intro ?_ ?_)))); all_goals (first | exact ob1 | exact fn_PlanOkS p hl | skip)))))
    refine ar_nilB (b := 2) (j := 2) (T := 3) (q := 1) (r := 90000) rfl rfl rfl rfl rfl ?_
    repeat' (refine ar_id ?_; first | refine st1 ?_ | (first | ((first | refine ar_region tt_ok (inps := []) rfl ?_ ?_); rotate_left; (try refine nrm ?_); rotate_right) | refine ret3 ?_ | refine end3 ?_) | (refine ar_cond rfl trivial ?_ ?_ <;> intro hc_ <;> (try simp only [isNilI, inB, reduceCtorEq, cds] at hc_) <;> (try (first | contradiction | (exfalso; omega)))) | refine ar_until (And.intro ?_ (wk3 ?_)))
    all_goals (first | refine ar_id ?_ | (try (focus ((try refine nrmO ?_); (repeat' (first | exact True.intro | refine And.intro ?_ ?_)); all_goals (try (intro (hg_ : _ = true); (try simp only [isNilI, inB, reduceCtorEq, cds] at hg_); (repeat' (first | exact True.intro | refine And.intro ?_ ?_)))); all_goals (first | exact ob1 | skip)))))
    all_goals rfl
end Eng
end Go.Proofs.YtlkkiopjknbomaaGreatDoor
namespace Go.Proofs.YtlkkiopjknbomaaGreatDoor
open Go.RowKit
set_option linter.unusedVariables false
set_option linter.unusedSimpArgs false
set_option maxRecDepth 100000
namespace Eng
open Tr
/-- a machine that can be read: its slices are not too long -/
structure szM7 (m : GMachine) : Prop where
  c : m.Frames.Cells.length ≤ 1048576
  u : m.Frames.Used.length ≤ 1048576
  r : ∀ r ∈ m.Frames.Cells, r.length ≤ 1048576
  e : m.Table.Entries.length ≤ 1048576
def c_MOk (m : GMachine) : CFD := ⟨50, [.agg [ro 33 1 eIntS m.Frames.Cells, ro 4 1 Tr.eB m.Frames.Used, ro 45 2 eEntry m.Table.Entries]], [], (TV.sv (.one (.lit (.bool (pMachineOk m))))), [], [], []⟩
theorem fn_MOk (m : GMachine) (hs : szM7 m) : Fn Tryz.prog (c_MOk m) := by
  refine fn_intro tt_ok Tryz.func50 rfl Tryz.call50 Tryz.ntmps50 Tryz.results50 rfl rfl rfl rfl ?_
  intro X ρ0 hb_ hgl_
  dsimp only [c_MOk]
  try refine nrm ?_
  repeat' (refine ar_id ?_; first | refine st1 ?_ | (first | ((first | refine ar_region (id := 1) tt_ok (inps := [.call (c_Ok5 m.Frames), .call (c_TOk m.Table m.Frames.Cells.length)]) rfl ?_ ?_ | refine ar_region tt_ok (inps := []) rfl ?_ ?_); rotate_left; (try dsimp only [c_Ok5, c_TOk]); (try refine nrm ?_); rotate_right) | refine ret3 ?_ | refine end3 ?_) | (refine ar_cond rfl trivial ?_ ?_ <;> intro hc_ <;> (try simp only [isNilI, inB, reduceCtorEq, cds] at hc_) <;> (try (first | contradiction | (exfalso; omega)))) | refine ar_until (And.intro ?_ (wk3 ?_)))
  all_goals (first | refine ar_id ?_ | (try (focus ((try refine nrmO ?_); (repeat' (first | exact True.intro | refine And.intro ?_ ?_)); all_goals (try (intro (hg_ : _ = true); (try simp only [isNilI, inB, reduceCtorEq, cds] at hg_); (repeat' (first | exact True.intro | refine And.intro ?_ ?_)))); all_goals (first | exact ob1 | exact fn_Ok5 _ hs.c hs.u hs.r | exact fn_TOk _ _ hs.e | skip)))))
  · refine bf fun h => ?_
    rcases hc_ with hc_ | hc_
    · rw [show pFramesOk m.Frames = true from decide_eq_true h.1] at hc_; cases hc_
    · rw [h.2.1] at hc_; cases hc_
  have hok := of_decide_eq_true hc_.1
  have htk := hc_.2
  have hu := hs.u
  refine ar_keep 15 (by dsimp only [keepS] <;> exact rfl) ?_
  refine ar_forM (m.Frames.Used.length) (fun i => ∀ j, j < i → m.Frames.Used[j]? = some (decide (0 < (pPagesOn m.Table (j : Int)).length))) (fun i => [(3, (TV.sv (.one (.lit (.int .i64 (i))))))]) (fun i => []) ?_ ?_ ?_
  rotate_left
  · first | trivial | simp
  (dsimp only [rnCap, capSVs, Int.toNat_natCast, ro, Nat.reduceAdd, Nat.reduceMul, Nat.zero_add, List.map, putT, app, wrapG, gOb, argT, keys, slotOf, dropped, gAnd, wB, rnT, rnS, rnC, rnCs, rnSs, rnM, rnB, rnN, rn, lk, St.over, ded, delL, keepT, menT, menSs, menS, menCs, menC, hasN, resT, SV.cells]; refine wk3 ?_; (focus ((try refine nrmO ?_); (repeat' (first | exact True.intro | refine And.intro ?_ ?_)); all_goals (try (intro (hg_ : _ = true); (try simp only [isNilI, inB, reduceCtorEq, cds] at hg_); (repeat' (first | exact True.intro | refine And.intro ?_ ?_)))); all_goals (first | exact ob1 | exact rfl | skip))))
  rotate_right
  intro i hi_ hiI_
  dsimp only [rnCap, capSVs, Int.toNat_natCast, ro, Nat.reduceAdd, Nat.reduceMul, Nat.zero_add, List.map, putT, app, wrapG, gOb, argT, keys, slotOf, dropped, gAnd, wB, rnT, rnS, rnC, rnCs, rnSs, rnM, rnB, rnN, rn, lk, St.over, ded, delL, keepT, menT, menSs, menS, menCs, menC, hasN, resT, SV.cells]
  repeat' (refine ar_id ?_; first | refine st1 ?_ | (first | ((first | refine ar_draw (id := 6) (inps := [.elem (Tr.eB (m.Frames.Used.getD i false)), .call (c_PagesOn m.Table i)]) tt_ok (by kernel_rfl) rfl rfl (by kernel_rfl) rfl rfl rfl rfl ?_ ?_ | refine ar_region tt_ok (inps := []) rfl ?_ ?_); rotate_left; (try dsimp only [c_PagesOn]); (try refine nrm ?_); rotate_right) | refine ret3 ?_ | refine end3 ?_) | (refine ar_cond rfl trivial ?_ ?_ <;> intro hc_ <;> (try simp only [isNilI, inB, reduceCtorEq, cds] at hc_) <;> (try (first | contradiction | (exfalso; omega)))) | refine ar_until (And.intro ?_ (wk3 ?_)))
  all_goals (first | refine ar_id ?_ | (try (focus ((try refine nrmO ?_); (repeat' (first | exact True.intro | refine And.intro ?_ ?_)); all_goals (try (intro (hg_ : _ = true); (try simp only [isNilI, inB, reduceCtorEq, cds] at hg_); (repeat' (first | exact True.intro | refine And.intro ?_ ?_)))); all_goals (first | exact ob1 | exact fn_PagesOn _ _ hs.e | skip)))))
  · exact bf fun h => hc_ (by
      have h1 := h.2.2 i (by omega)
      rw [getD_at (x := false) (by omega)] at h1
      rw [Option.some.inj h1]
      exact decide_eq_decide.2 (by omega))
  · intro j hj
    rcases Nat.lt_succ_iff_lt_or_eq.1 hj with hj | rfl
    · exact hiI_ j hj
    · rw [getD_at (x := false) (by omega), hc_]
      exact congrArg some (decide_eq_decide.2 (by omega))
  · exact bt ⟨hok, htk, fun j hj => hiI_ j (by omega)⟩
def c_Copy7 (m : GMachine) : CFD := ⟨104, [.agg [ro 33 1 eIntS m.Frames.Cells, ro 4 1 Tr.eB m.Frames.Used, ro 45 2 eEntry m.Table.Entries]], [], .sv (.agg [.hd 0, .hd 1, .hd 2]),
  [(0, some (.row 33 1 (m.Frames.Cells.map eIntS))), (1, some (.row 4 1 (m.Frames.Used.map Tr.eB))), (2, some (.row 45 2 (m.Table.Entries.map eEntry)))], [0, 1, 2], []⟩
theorem fn_Copy7 (m : GMachine) (hs : szM7 m) : Fn Tryz.prog (c_Copy7 m) := by
  refine fn_intro tt_ok Tryz.func104 rfl Tryz.call104 Tryz.ntmps104 Tryz.results104 rfl rfl rfl rfl ?_
  intro X ρ0 hb_ hgl_
  dsimp only [c_Copy7]
  try refine nrm ?_
  repeat' (refine ar_id ?_; first | refine st1 ?_ | (first | ((first | refine ar_draw (id := 1) (inps := [.call (c_Copy5 m.Frames), .call (c_Copy6 m.Table)]) tt_ok (by kernel_rfl) rfl rfl (by kernel_rfl) rfl rfl rfl rfl ?_ ?_ | refine ar_region tt_ok (inps := []) rfl ?_ ?_); rotate_left; (try dsimp only [c_Copy5, c_Copy6]); (try refine nrm ?_); rotate_right) | refine ret3 ?_ | refine end3 ?_) | (refine ar_cond rfl trivial ?_ ?_ <;> intro hc_ <;> (try simp only [isNilI, inB, reduceCtorEq, cds] at hc_) <;> (try (first | contradiction | (exfalso; omega)))) | refine ar_until (And.intro ?_ (wk3 ?_)))
  all_goals (first | refine ar_id ?_ | (try (focus ((try refine nrmO ?_); (repeat' (first | exact True.intro | refine And.intro ?_ ?_)); all_goals (try (intro (hg_ : _ = true); (try simp only [isNilI, inB, reduceCtorEq, cds] at hg_); (repeat' (first | exact True.intro | refine And.intro ?_ ?_)))); all_goals (first | exact ob1 | exact fn_Copy5 _ hs.c hs.u hs.r | exact fn_Copy6 _ hs.e | skip)))))
def c_MNew (p f : Int) : CFD := ⟨126, [(SV.one (.lit (.int .i64 (p)))), (SV.one (.lit (.int .i64 (f))))], [], .tup [.agg [.hd 0, .hd 1, .hd 2], (SV.one (.lit (.bool ((pMachineNew p f).2))))],
  [(0, some (.row 33 1 ((pMachineNew p f).1.Frames.Cells.map eIntS))), (1, some (.row 4 1 ((pMachineNew p f).1.Frames.Used.map Tr.eB))), (2, some (.row 45 2 ((pMachineNew p f).1.Table.Entries.map eEntry)))], [0, 1, 2], []⟩
theorem fn_MNew (p f : Int) : Fn Tryz.prog (c_MNew p f) := by
  refine fn_intro tt_ok Tryz.func126 rfl Tryz.call126 Tryz.ntmps126 Tryz.results126 rfl rfl rfl rfl ?_
  intro X ρ0 hb_ hgl_
  dsimp only [c_MNew]
  try refine nrm ?_
  repeat' (refine ar_id ?_; first | refine st1 ?_ | (first | ((first | refine ar_region (id := 1) tt_ok (inps := [.call (c_New5 f)]) rfl ?_ ?_ | refine ar_region (id := 2) tt_ok (inps := [.call (c_TNew p)]) rfl ?_ ?_ | refine ar_region tt_ok (inps := []) rfl ?_ ?_); rotate_left; (try dsimp only [c_New5, c_TNew]); (try refine nrm ?_); rotate_right) | refine ret3 ?_ | refine end3 ?_) | (refine ar_cond rfl trivial ?_ ?_ <;> intro hc_ <;> (try simp only [isNilI, inB, reduceCtorEq, cds] at hc_) <;> (try (first | contradiction | (exfalso; omega)))) | refine ar_until (And.intro ?_ (wk3 ?_)))
  all_goals (first | refine ar_id ?_ | (try (focus ((try refine nrmO ?_); (repeat' (first | exact True.intro | refine And.intro ?_ ?_)); all_goals (try (intro (hg_ : _ = true); (try simp only [isNilI, inB, reduceCtorEq, cds] at hg_); (repeat' (first | exact True.intro | refine And.intro ?_ ?_)))); all_goals (first | exact ob1 | exact fn_TNew _ | exact fn_New5 _ | skip)))))
  · have hV : pMachineNew p f = (noM, false) := by
      unfold pMachineNew
      rw [if_neg]
      rintro ⟨h1, h2⟩
      rcases hc_ with h | h
      · rw [h] at h1; cases h1
      · rw [h] at h2; cases h2
    refine ar_nilB (b := 4) (j := 0) (T := 33) (q := 1) (r := 90000) rfl rfl rfl rfl rfl ?_
    try dsimp only [putL]
    refine ar_nilB (b := 4) (j := 1) (T := 4) (q := 1) (r := 90001) rfl rfl rfl rfl rfl ?_
    try dsimp only [putL]
    refine ar_nilB (b := 4) (j := 2) (T := 45) (q := 2) (r := 90002) rfl rfl rfl rfl rfl ?_
    try dsimp only [putL]
    repeat' (refine ar_id ?_; first | refine st1 ?_ | (first | ((first | refine ar_region tt_ok (inps := []) rfl ?_ ?_); rotate_left; (try refine nrm ?_); rotate_right) | refine ret3 ?_ | refine end3 ?_) | (refine ar_cond rfl trivial ?_ ?_ <;> intro hc_ <;> (try simp only [isNilI, inB, reduceCtorEq, cds] at hc_) <;> (try (first | contradiction | (exfalso; omega)))) | refine ar_until (And.intro ?_ (wk3 ?_)))
    all_goals (first | refine ar_id ?_ | (try (focus ((try refine nrmO ?_); (repeat' (first | exact True.intro | refine And.intro ?_ ?_)); all_goals (try (intro (hg_ : _ = true); (try simp only [isNilI, inB, reduceCtorEq, cds] at hg_); (repeat' (first | exact True.intro | refine And.intro ?_ ?_)))); all_goals (first | exact ob1 | skip)))))
    · rw [hV]
    · rw [hV]; rfl
    · rw [hV]; rfl
    · rw [hV]; rfl
  all_goals have hV : pMachineNew p f = (⟨(pFramesNew f).1, (pTableNew p).1⟩, true) := by unfold pMachineNew; rw [if_pos ⟨hc_.1, hc_.2⟩]
  all_goals rw [hV]
end Eng
end Go.Proofs.YtlkkiopjknbomaaGreatDoor
namespace Go.Proofs.YtlkkiopjknbomaaGreatDoor
open Go.RowKit
set_option linter.unusedVariables false
set_option linter.unusedSimpArgs false
set_option maxRecDepth 100000
namespace Eng
open Tr
def c_Entry7 (m : GMachine) (addr : Int) : CFD := ⟨57, [.agg [ro 33 1 eIntS m.Frames.Cells, ro 4 1 Tr.eB m.Frames.Used, ro 45 2 eEntry m.Table.Entries], (SV.one (.lit (.int .i64 (addr))))], [], .tup [.agg [(CV.lit (.int .i64 ((pEntry m addr).1.Mode))), (CV.lit (.int .i64 ((pEntry m addr).1.Frame)))], (SV.one (.lit (.int .i64 ((pEntry m addr).2))))], [], [], []⟩
theorem fn_Entry7 (m : GMachine) (addr : Int) (hs : szM7 m) (ha : addr ≤ 1000000) : Fn Tryz.prog (c_Entry7 m addr) := by
  have hse := hs.e
  refine fn_intro tt_ok Tryz.func57 rfl Tryz.call57 Tryz.ntmps57 Tryz.results57 rfl rfl rfl rfl ?_
  intro X ρ0 hb_ hgl_
  dsimp only [c_Entry7]
  try refine nrm ?_
  repeat' (refine ar_id ?_; first | refine st1 ?_ | (first | ((first | refine ar_region (id := 3) tt_ok (inps := [.call (c_PageEntry m.Table (addr.tdiv 16))]) rfl ?_ ?_ | refine ar_region tt_ok (inps := []) rfl ?_ ?_); rotate_left; (try dsimp only [c_PageEntry]); (try refine nrm ?_); rotate_right) | refine ret3 ?_ | refine end3 ?_) | (refine ar_cond rfl trivial ?_ ?_ <;> intro hc_ <;> (try simp only [isNilI, inB, reduceCtorEq, cds] at hc_) <;> (try (first | contradiction | (exfalso; omega)))) | refine ar_until (And.intro ?_ (wk3 ?_)))
  all_goals (first | refine ar_id ?_ | (try (focus ((try refine nrmO ?_); (repeat' (first | exact True.intro | refine And.intro ?_ ?_)); all_goals (try (intro (hg_ : _ = true); (try simp only [isNilI, inB, reduceCtorEq, cds] at hg_); (repeat' (first | exact True.intro | refine And.intro ?_ ?_)))); all_goals (first | exact ob1 | exact fn_PageEntry _ _ hse | skip)))))
  all_goals first
    | (unfold pEntry; rw [if_pos (by assumption)]; done)
    | (rw [Int.tdiv_eq_ediv_of_nonneg (by assumption)]; exact i64_ok (by omega) (by omega))
    | (unfold pEntry; rw [if_neg (by omega), Int.tdiv_eq_ediv_of_nonneg (by assumption)]; done)
    | (unfold pEntry; rw [if_neg (by omega), Int.tmod_eq_emod_of_nonneg (by assumption)]; done)
def c_EntR (m : GMachine) (addr md fr k : Int) : CFD := ⟨57, [.agg [ro 33 1 eIntS m.Frames.Cells, ro 4 1 Tr.eB m.Frames.Used, ro 45 2 eEntry m.Table.Entries], (SV.one (.lit (.int .i64 (addr))))], [], .tup [.agg [(CV.lit (.int .i64 (md))), (CV.lit (.int .i64 (fr)))], (SV.one (.lit (.int .i64 (k))))], [], [], []⟩
theorem fn_EntR (m : GMachine) (addr md fr k : Int) (hs : szM7 m) (ha : addr ≤ 1000000) (h1 : (pEntry m addr).1.Mode = md) (h2 : (pEntry m addr).1.Frame = fr) (h3 : (pEntry m addr).2 = k) : Fn Tryz.prog (c_EntR m addr md fr k) := by
  subst h1 h2 h3; exact fn_Entry7 m addr hs ha
def c_Load7 (m : GMachine) (addr : Int) : CFD := ⟨22, [.agg [ro 33 1 eIntS m.Frames.Cells, ro 4 1 Tr.eB m.Frames.Used, ro 45 2 eEntry m.Table.Entries], (SV.one (.lit (.int .i64 (addr))))], [], .tup [(SV.one (.lit (.int .i64 ((pLoad m addr).1)))), (SV.one (.lit (.int .i64 ((pLoad m addr).2))))], [], [], []⟩
theorem fn_Load7 (m : GMachine) (addr : Int) (hs : szM7 m) (ha : addr ≤ 1000000) : Fn Tryz.prog (c_Load7 m addr) := by
  by_cases hC : canLoad m addr
  · obtain ⟨_, f, k, r, hf, hk, h1, h2, _, h3, h4⟩ := load_at hC
    have hok : pMachineOk m = true := decide_eq_true hC.1
    have hM := hC.2
    have hr : m.Frames.Cells.getD f [] = r := by rw [List.getD_eq_getElem?_getD, h3]; rfl
    have h5 : (m.Frames.Cells.getD f []).length = 16 := by rw [hr]; exact h4
    have hV : pLoad m addr = ((m.Frames.Cells.getD f []).getD k 0, 0) := by unfold pLoad cellOf; rw [if_pos hC, hf, hk]; rfl
    refine fn_intro tt_ok Tryz.func22 rfl Tryz.call22 Tryz.ntmps22 Tryz.results22 rfl rfl rfl rfl ?_
    intro X ρ0 hb_ hgl_
    dsimp only [c_Load7]
    try refine nrm ?_
    rw [hV]
    repeat' (refine ar_id ?_; first | refine st1 ?_ | (first | ((first | refine ar_region (id := 1) tt_ok (inps := [.call (c_EntR m addr (pEntry m addr).1.Mode f k)]) rfl ?_ ?_ | refine ar_region (id := 2) tt_ok (inps := [.call (c_MOk m)]) rfl ?_ ?_ | refine ar_region (id := 4) tt_ok (inps := [.elem (eIntS (m.Frames.Cells.getD f [])), .elem (eI ((m.Frames.Cells.getD f []).getD k 0))]) rfl ?_ ?_ | refine ar_region tt_ok (inps := []) rfl ?_ ?_); rotate_left; (try dsimp only [c_EntR, c_MOk]); (try refine nrm ?_); rotate_right) | refine ret3 ?_ | refine end3 ?_) | (refine ar_cond rfl trivial ?_ ?_ <;> intro hc_ <;> (try simp only [isNilI, inB, reduceCtorEq, cds] at hc_) <;> (try (first | contradiction | (exfalso; omega) | (exfalso; grind)))) | refine ar_until (And.intro ?_ (wk3 ?_)))
    all_goals (first | refine ar_id ?_ | (try (focus ((try refine nrmO ?_); (repeat' (first | exact True.intro | refine And.intro ?_ ?_)); all_goals (try (intro (hg_ : _ = true); (try simp only [isNilI, inB, reduceCtorEq, cds] at hg_); (repeat' (first | exact True.intro | refine And.intro ?_ ?_)))); all_goals (first | exact ob1 | exact fn_EntR m addr _ _ _ hs ha rfl hf hk | exact fn_MOk m hs | skip)))))
  · have hV : pLoad m addr = (0, 1) := by unfold pLoad; rw [if_neg hC]
    have hC' : ¬ (pMachineOk m = true ∧ ¬ (pEntry m addr).1.Mode = 0) := fun h => hC ⟨of_decide_eq_true h.1, h.2⟩
    refine fn_intro tt_ok Tryz.func22 rfl Tryz.call22 Tryz.ntmps22 Tryz.results22 rfl rfl rfl rfl ?_
    intro X ρ0 hb_ hgl_
    dsimp only [c_Load7]
    try refine nrm ?_
    rw [hV]
    repeat' (refine ar_id ?_; first | refine st1 ?_ | (first | ((first | refine ar_region (id := 1) tt_ok (inps := [.call (c_Entry7 m addr)]) rfl ?_ ?_ | refine ar_region (id := 2) tt_ok (inps := [.call (c_MOk m)]) rfl ?_ ?_ | refine ar_region tt_ok (inps := []) rfl ?_ ?_); rotate_left; (try dsimp only [c_Entry7, c_MOk]); (try refine nrm ?_); rotate_right) | refine ret3 ?_ | refine end3 ?_) | (refine ar_cond rfl trivial ?_ ?_ <;> intro hc_ <;> (try simp only [isNilI, inB, reduceCtorEq, cds] at hc_) <;> (try (first | contradiction | (exfalso; omega) | (exfalso; grind)))) | refine ar_until (And.intro ?_ (wk3 ?_)))
    all_goals (first | refine ar_id ?_ | (try (focus ((try refine nrmO ?_); (repeat' (first | exact True.intro | refine And.intro ?_ ?_)); all_goals (try (intro (hg_ : _ = true); (try simp only [isNilI, inB, reduceCtorEq, cds] at hg_); (repeat' (first | exact True.intro | refine And.intro ?_ ?_)))); all_goals (first | exact ob1 | exact fn_Entry7 m addr hs ha | exact fn_MOk m hs | skip)))))
def c_UsedF (f : GFrames) : CFD := ⟨19, [.agg [ro 33 1 eIntS f.Cells, ro 4 1 Tr.eB f.Used]], [], (TV.sv (.one (.lit (.int .i64 (pUsedFrames f))))), [], [], []⟩
theorem fn_UsedF (f : GFrames) (hl : f.Cells.length ≤ 1048576) (hu : f.Used.length ≤ 1048576) (hc : ∀ r ∈ f.Cells, r.length ≤ 1048576) : Fn Tryz.prog (c_UsedF f) := by
  by_cases hok : okF f
  · have hV : pUsedFrames f = ((f.Used.countP (fun u => u) : Nat) : Int) := by unfold pUsedFrames; rw [if_pos hok]
    have hF : pFramesOk f = true := decide_eq_true hok
    have up : ∀ i, (f.Used.take i).countP (fun u => u) ≤ f.Used.length := fun i => Nat.le_trans List.countP_le_length (by simp; omega)
    refine fn_intro tt_ok Tryz.func19 rfl Tryz.call19 Tryz.ntmps19 Tryz.results19 rfl rfl rfl rfl ?_
    intro X ρ0 hb_ hgl_
    dsimp only [c_UsedF]
    try refine nrm ?_
    rw [hV]
    repeat' (refine ar_id ?_; first | refine st1 ?_ | (first | ((first | refine ar_region tt_ok (inps := []) rfl ?_ ?_); rotate_left; (try refine nrm ?_); rotate_right) | refine ret3 ?_ | refine end3 ?_) | (refine ar_cond rfl trivial ?_ ?_ <;> intro hc_ <;> (try simp only [isNilI, inB, reduceCtorEq, cds] at hc_) <;> (try (first | contradiction | (exfalso; omega)))) | refine ar_until (And.intro ?_ (wk3 ?_)))
    all_goals (first | refine ar_id ?_ | (try (focus ((try refine nrmO ?_); (repeat' (first | exact True.intro | refine And.intro ?_ ?_)); all_goals (try (intro (hg_ : _ = true); (try simp only [isNilI, inB, reduceCtorEq, cds] at hg_); (repeat' (first | exact True.intro | refine And.intro ?_ ?_)))); all_goals (first | exact ob1 | skip)))))
    refine ar_keep 31 (by dsimp only [keepS] <;> exact rfl) ?_
    refine ar_forM (f.Used.length) (fun i => True) (fun i => [(4, (TV.sv (.one (.lit (.int .i64 (i)))))), (3, (TV.sv (.one (.lit (.int .i64 (((f.Used.take i).countP (fun u => u) : Nat)))))))]) (fun i => []) ?_ ?_ ?_
    rotate_left
    · first | trivial | simp
    (dsimp only [rnCap, capSVs, Int.toNat_natCast, ro, Nat.reduceAdd, Nat.reduceMul, Nat.zero_add, List.map, putT, app, wrapG, gOb, argT, keys, slotOf, dropped, gAnd, wB, rnT, rnS, rnC, rnCs, rnSs, rnM, rnB, rnN, rn, lk, St.over, ded, delL, keepT, menT, menSs, menS, menCs, menC, hasN, resT, SV.cells]; refine wk3 ?_; (focus ((try refine nrmO ?_); (repeat' (first | exact True.intro | refine And.intro ?_ ?_)); all_goals (try (intro (hg_ : _ = true); (try simp only [isNilI, inB, reduceCtorEq, cds] at hg_); (repeat' (first | exact True.intro | refine And.intro ?_ ?_)))); all_goals (first | exact ob1 | exact rfl | skip))))
    rotate_right
    intro i hi_ hiI_
    dsimp only [rnCap, capSVs, Int.toNat_natCast, ro, Nat.reduceAdd, Nat.reduceMul, Nat.zero_add, List.map, putT, app, wrapG, gOb, argT, keys, slotOf, dropped, gAnd, wB, rnT, rnS, rnC, rnCs, rnSs, rnM, rnB, rnN, rn, lk, St.over, ded, delL, keepT, menT, menSs, menS, menCs, menC, hasN, resT, SV.cells]
    repeat' (refine ar_id ?_; first | refine st1 ?_ | (first | ((first | refine ar_region (id := 3) tt_ok (inps := [.call (c_Ok5 f)]) rfl ?_ ?_ | refine ar_region (id := 5) tt_ok (inps := [.elem (Tr.eB (f.Used.getD i false))]) rfl ?_ ?_ | refine ar_region tt_ok (inps := []) rfl ?_ ?_); rotate_left; (try dsimp only [c_Ok5]); (try refine nrm ?_); rotate_right) | refine ret3 ?_ | refine end3 ?_) | (refine ar_cond rfl trivial ?_ ?_ <;> intro hc_ <;> (try simp only [isNilI, inB, reduceCtorEq, cds] at hc_) <;> (try (first | contradiction | (exfalso; omega)))) | refine ar_until (And.intro ?_ (wk3 ?_)))
    all_goals (first | refine ar_id ?_ | (try (focus ((try refine nrmO ?_); (repeat' (first | exact True.intro | refine And.intro ?_ ?_)); all_goals (try (intro (hg_ : _ = true); (try simp only [isNilI, inB, reduceCtorEq, cds] at hg_); (repeat' (first | exact True.intro | refine And.intro ?_ ?_)))); all_goals (first | exact ob1 | exact fn_Ok5 _ hl hu hc | skip)))))
    · have := up i; exact i64_ok (by omega) (by omega)
    · rw [countP_take _ _ false (by omega)]; simp_all
    · rw [countP_take _ _ false (by omega)]; simp_all
    · rw [List.take_of_length_le (by
        rcases hc_ with h | h
        · omega
        · rw [hF] at h; cases h)]
  · have hV : pUsedFrames f = 0 := by unfold pUsedFrames; rw [if_neg hok]
    have hF : pFramesOk f = false := decide_eq_false hok
    refine fn_intro tt_ok Tryz.func19 rfl Tryz.call19 Tryz.ntmps19 Tryz.results19 rfl rfl rfl rfl ?_
    intro X ρ0 hb_ hgl_
    dsimp only [c_UsedF]
    try refine nrm ?_
    rw [hV]
    repeat' (refine ar_id ?_; first | refine st1 ?_ | (first | ((first | refine ar_region tt_ok (inps := []) rfl ?_ ?_); rotate_left; (try refine nrm ?_); rotate_right) | refine ret3 ?_ | refine end3 ?_) | (refine ar_cond rfl trivial ?_ ?_ <;> intro hc_ <;> (try simp only [isNilI, inB, reduceCtorEq, cds] at hc_) <;> (try (first | contradiction | (exfalso; omega)))) | refine ar_until (And.intro ?_ (wk3 ?_)))
    all_goals (first | refine ar_id ?_ | (try (focus ((try refine nrmO ?_); (repeat' (first | exact True.intro | refine And.intro ?_ ?_)); all_goals (try (intro (hg_ : _ = true); (try simp only [isNilI, inB, reduceCtorEq, cds] at hg_); (repeat' (first | exact True.intro | refine And.intro ?_ ?_)))); all_goals (first | exact ob1 | skip)))))
    refine ar_keep 31 (by dsimp only [keepS] <;> exact rfl) ?_
    refine ar_forM (0) (fun i => True) (fun i => [(4, (TV.sv (.one (.lit (.int .i64 (i)))))), (3, (TV.sv (.one (.lit (.int .i64 (0))))))]) (fun i => []) ?_ ?_ ?_
    rotate_left
    · first | trivial | simp
    (dsimp only [rnCap, capSVs, Int.toNat_natCast, ro, Nat.reduceAdd, Nat.reduceMul, Nat.zero_add, List.map, putT, app, wrapG, gOb, argT, keys, slotOf, dropped, gAnd, wB, rnT, rnS, rnC, rnCs, rnSs, rnM, rnB, rnN, rn, lk, St.over, ded, delL, keepT, menT, menSs, menS, menCs, menC, hasN, resT, SV.cells]; refine wk3 ?_; (focus ((try refine nrmO ?_); (repeat' (first | exact True.intro | refine And.intro ?_ ?_)); all_goals (try (intro (hg_ : _ = true); (try simp only [isNilI, inB, reduceCtorEq, cds] at hg_); (repeat' (first | exact True.intro | refine And.intro ?_ ?_)))); all_goals (first | exact ob1 | exact rfl | skip))))
    rotate_right
    intro i hi_ hiI_
    dsimp only [rnCap, capSVs, Int.toNat_natCast, ro, Nat.reduceAdd, Nat.reduceMul, Nat.zero_add, List.map, putT, app, wrapG, gOb, argT, keys, slotOf, dropped, gAnd, wB, rnT, rnS, rnC, rnCs, rnSs, rnM, rnB, rnN, rn, lk, St.over, ded, delL, keepT, menT, menSs, menS, menCs, menC, hasN, resT, SV.cells]
    repeat' (refine ar_id ?_; first | refine st1 ?_ | (first | ((first | refine ar_region (id := 3) tt_ok (inps := [.call (c_Ok5 f)]) rfl ?_ ?_ | refine ar_region tt_ok (inps := []) rfl ?_ ?_); rotate_left; (try dsimp only [c_Ok5]); (try refine nrm ?_); rotate_right) | refine ret3 ?_ | refine end3 ?_) | (refine ar_cond rfl trivial ?_ ?_ <;> intro hc_ <;> (try simp only [isNilI, inB, reduceCtorEq, cds] at hc_) <;> (try (first | contradiction | (exfalso; omega) | (exfalso; grind)))) | refine ar_until (And.intro ?_ (wk3 ?_)))
    all_goals (first | refine ar_id ?_ | (try (focus ((try refine nrmO ?_); (repeat' (first | exact True.intro | refine And.intro ?_ ?_)); all_goals (try (intro (hg_ : _ = true); (try simp only [isNilI, inB, reduceCtorEq, cds] at hg_); (repeat' (first | exact True.intro | refine And.intro ?_ ?_)))); all_goals (first | exact ob1 | exact fn_Ok5 _ hl hu hc | skip)))))
def c_Store7 (m : GMachine) (addr v : Int) (m' : GMachine) : CFD := ⟨87, [.agg [ro 33 1 eIntS m.Frames.Cells, ro 4 1 Tr.eB m.Frames.Used, ro 45 2 eEntry m.Table.Entries], (SV.one (.lit (.int .i64 (addr)))), (SV.one (.lit (.int .i64 (v))))], [], .tup [.agg [.hd 0, .hd 1, .hd 2], (SV.one (.lit (.int .i64 (0))))], [(0, some (.row 33 1 ((m').Frames.Cells.map eIntS))), (1, some (.row 4 1 ((m').Frames.Used.map Tr.eB))), (2, some (.row 45 2 ((m').Table.Entries.map eEntry)))], [0, 1, 2], []⟩
/-- a store that is made -/
theorem fn_Store7 (m : GMachine) (addr v : Int) (hs : szM7 m) (ha : addr ≤ 1000000) (hC : canLoad m addr) (h2 : (pEntry m addr).1.Mode = 2) (hv : 0 ≤ v ∧ v ≤ 999) : Fn Tryz.prog (c_Store7 m addr v (setCellOf m (pEntry m addr).1.Frame (pEntry m addr).2 v)) := by
  obtain ⟨_, f, k, r, hf, hk, h1, h2', _, h3, h4⟩ := load_at hC
  have hok : pMachineOk m = true := decide_eq_true hC.1
  have hr : m.Frames.Cells.getD f [] = r := by rw [List.getD_eq_getElem?_getD, h3]; rfl
  have h5 : (m.Frames.Cells.getD f []).length = 16 := by rw [hr]; exact h4
  rw [hf, hk]
  refine fn_intro tt_ok Tryz.func87 rfl Tryz.call87 Tryz.ntmps87 Tryz.results87 rfl rfl rfl rfl ?_
  intro X ρ0 hb_ hgl_
  dsimp only [c_Store7]
  try refine nrm ?_
  repeat' (refine ar_id ?_; first | refine st1 ?_ | (first | ((first | refine ar_region (id := 1) tt_ok (inps := [.call (c_Copy7 m)]) rfl ?_ ?_ | refine ar_region (id := 2) tt_ok (inps := [.call (c_EntR m addr 2 f k)]) rfl ?_ ?_ | refine ar_region (id := 3) tt_ok (inps := [.call (c_MOk m)]) rfl ?_ ?_ | refine ar_region (id := 7) tt_ok (inps := [.call (c_In v 0 999)]) rfl ?_ ?_ | refine ar_region tt_ok (inps := []) rfl ?_ ?_); rotate_left; (try dsimp only [c_Copy7, c_EntR, c_In, c_MOk]); (try refine nrm ?_); rotate_right) | refine ret3 ?_ | refine end3 ?_) | (refine ar_cond rfl trivial ?_ ?_ <;> intro hc_ <;> (try simp only [isNilI, inB, reduceCtorEq, cds] at hc_) <;> (try (first | contradiction | (exfalso; omega) | (exfalso; grind)))) | refine ar_until (And.intro ?_ (wk3 ?_)))
  all_goals (first | refine ar_id ?_ | (try (focus ((try refine nrmO ?_); (repeat' (first | exact True.intro | refine And.intro ?_ ?_)); all_goals (try (intro (hg_ : _ = true); (try simp only [isNilI, inB, reduceCtorEq, cds] at hg_); (repeat' (first | exact True.intro | refine And.intro ?_ ?_)))); all_goals (first | exact ob1 | exact fn_Copy7 m hs | exact fn_EntR m addr _ _ _ hs ha h2 hf hk | exact fn_MOk m hs | exact fn_In _ _ _ | skip)))))
  refine ar_open 13000 f 0 90001 90002 (d := eIntS (m.Frames.Cells.getD f [])) ((m.Frames.Cells.getD f []).map eI) rfl ?_ rfl ?_ rfl rfl rfl ?_
  · first | exact map_at (by omega) | assumption | exact set_at (by (try simp only [List.length_map, List.length_set]); omega) | (rw [List.getElem?_set_ne (by omega)]; exact map_at (by omega))
  · exact ⟨rfl, rfl, by intro e he; simp only [List.mem_map] at he; obtain ⟨_, _, rfl⟩ := he; rfl⟩
  intro A_90001 n_90001 c_90001
  try refine nrm ?_
  refine ar_region (id := 9) tt_ok (inps := [.nest (.lit (Value.slice A_90001 n_90001 c_90001) .nil) [(0, 90002)], .elem (eI ((m.Frames.Cells.getD f []).getD k 0))]) rfl ?_ ?_
  rotate_left
  (try refine nrm ?_)
  refine ar_close 13000 f 0 90001 90002 rfl rfl rfl (set_at ?_) rfl rfl rfl ?_
  · (simp only [List.length_map, List.length_set]; omega)
  try refine nrm ?_
  repeat' (refine ar_id ?_; first | refine st1 ?_ | (first | ((first | refine ar_region tt_ok (inps := []) rfl ?_ ?_); rotate_left; (try refine nrm ?_); rotate_right) | refine ret3 ?_ | refine end3 ?_) | (refine ar_cond rfl trivial ?_ ?_ <;> intro hc_ <;> (try simp only [isNilI, inB, reduceCtorEq, cds] at hc_) <;> (try (first | contradiction | (exfalso; omega)))) | refine ar_until (And.intro ?_ (wk3 ?_)))
  all_goals (first | refine ar_id ?_ | (try (focus ((try refine nrmO ?_); (repeat' (first | exact True.intro | refine And.intro ?_ ?_)); all_goals (try (intro (hg_ : _ = true); (try simp only [isNilI, inB, reduceCtorEq, cds] at hg_); (repeat' (first | exact True.intro | refine And.intro ?_ ?_)))); all_goals (first | exact ob1 | skip)))))
  all_goals (try (focus ((try refine nrmO ?_); (repeat' (first | exact True.intro | refine And.intro ?_ ?_)); all_goals (try (intro (hg_ : _ = true); (try simp only [isNilI, inB, reduceCtorEq, cds] at hg_); (repeat' (first | exact True.intro | refine And.intro ?_ ?_)))); all_goals (first | exact ob1 | skip))))
  · have hset : ((m.Frames.Cells.getD f []).map eI).set k (dPut (eI ((m.Frames.Cells.getD f []).getD k 0)) 0 (D.lit (.int .i64 v) .nil)) = ((m.Frames.Cells.getD f []).set k v).map eI := List.map_set.symm
    rw [List.set_set, hset]
    exact (congrArg (List.set (m.Frames.Cells.map eIntS) f) (show _ = eIntS ((m.Frames.Cells.getD f []).set k v) from rfl)).trans List.map_set.symm
  · rfl
  · rfl
end Eng
end Go.Proofs.YtlkkiopjknbomaaGreatDoor
namespace Go.Proofs.YtlkkiopjknbomaaGreatDoor
open Go.RowKit
set_option linter.unusedVariables false
set_option linter.unusedSimpArgs false
set_option maxRecDepth 100000
namespace Eng
open Tr
/-- a kernel that can be read -/
structure szK8 (k : GKernel) : Prop where
  m : szM7 k.Machine
  r : k.Refuse.length ≤ 1048576
def c_Has (l : List Int) (x : Int) : CFD := ⟨85, [.one (ro 3 1 Tr.eI l), (SV.one (.lit (.int .i64 (x))))], [], (TV.sv (.one (.lit (.bool (decide (x ∈ l)))))), [], [], []⟩
theorem fn_Has (l : List Int) (x : Int) (hl : l.length ≤ 1048576) : Fn Tryz.prog (c_Has l x) := by
  refine fn_intro tt_ok Tryz.func85 rfl Tryz.call85 Tryz.ntmps85 Tryz.results85 rfl rfl rfl rfl ?_
  intro X ρ0 hb_ hgl_
  dsimp only [c_Has]
  try refine nrm ?_
  repeat' (refine ar_id ?_; first | refine st1 ?_ | (first | ((first | refine ar_region tt_ok (inps := []) rfl ?_ ?_); rotate_left; (try refine nrm ?_); rotate_right) | refine ret3 ?_ | refine end3 ?_) | (refine ar_cond rfl trivial ?_ ?_ <;> intro hc_ <;> (try simp only [isNilI, inB, reduceCtorEq, cds] at hc_) <;> (try (first | contradiction | (exfalso; omega)))) | refine ar_until (And.intro ?_ (wk3 ?_)))
  all_goals (first | refine ar_id ?_ | (try (focus ((try refine nrmO ?_); (repeat' (first | exact True.intro | refine And.intro ?_ ?_)); all_goals (try (intro (hg_ : _ = true); (try simp only [isNilI, inB, reduceCtorEq, cds] at hg_); (repeat' (first | exact True.intro | refine And.intro ?_ ?_)))); all_goals (first | exact ob1 | skip)))))
  refine ar_keep 51 (by dsimp only [keepS] <;> exact rfl) ?_
  refine ar_forM (l.length) (fun i => ∀ y ∈ l.take i, y ≠ x) (fun i => [(5, (TV.sv (.one (.lit (.int .i64 (i))))))]) (fun i => []) ?_ ?_ ?_
  rotate_left
  · first | trivial | simp
  (dsimp only [rnCap, capSVs, Int.toNat_natCast, ro, Nat.reduceAdd, Nat.reduceMul, Nat.zero_add, List.map, putT, app, wrapG, gOb, argT, keys, slotOf, dropped, gAnd, wB, rnT, rnS, rnC, rnCs, rnSs, rnM, rnB, rnN, rn, lk, St.over, ded, delL, keepT, menT, menSs, menS, menCs, menC, hasN, resT, SV.cells]; refine wk3 ?_; (focus ((try refine nrmO ?_); (repeat' (first | exact True.intro | refine And.intro ?_ ?_)); all_goals (try (intro (hg_ : _ = true); (try simp only [isNilI, inB, reduceCtorEq, cds] at hg_); (repeat' (first | exact True.intro | refine And.intro ?_ ?_)))); all_goals (first | exact ob1 | exact rfl | skip))))
  rotate_right
  intro i hi_ hiI_
  dsimp only [rnCap, capSVs, Int.toNat_natCast, ro, Nat.reduceAdd, Nat.reduceMul, Nat.zero_add, List.map, putT, app, wrapG, gOb, argT, keys, slotOf, dropped, gAnd, wB, rnT, rnS, rnC, rnCs, rnSs, rnM, rnB, rnN, rn, lk, St.over, ded, delL, keepT, menT, menSs, menS, menCs, menC, hasN, resT, SV.cells]
  repeat' (refine ar_id ?_; first | refine st1 ?_ | (first | ((first | refine ar_region (id := 4) tt_ok (inps := [.elem (Tr.eI (l.getD i 0))]) rfl ?_ ?_ | refine ar_region tt_ok (inps := []) rfl ?_ ?_); rotate_left; (try refine nrm ?_); rotate_right) | refine ret3 ?_ | refine end3 ?_) | (refine ar_cond rfl trivial ?_ ?_ <;> intro hc_ <;> (try simp only [isNilI, inB, reduceCtorEq, cds] at hc_) <;> (try (first | contradiction | (exfalso; omega)))) | refine ar_until (And.intro ?_ (wk3 ?_)))
  all_goals (first | refine ar_id ?_ | (try (focus ((try refine nrmO ?_); (repeat' (first | exact True.intro | refine And.intro ?_ ?_)); all_goals (try (intro (hg_ : _ = true); (try simp only [isNilI, inB, reduceCtorEq, cds] at hg_); (repeat' (first | exact True.intro | refine And.intro ?_ ?_)))); all_goals (first | exact ob1 | skip)))))
  · exact bt (hc_ ▸ getD_in (by omega))
  · exact all_take (d := 0) hiI_ (by omega) hc_
  · exact bf fun h => all_full hiI_ (by omega) _ h rfl
def c_KOk (k : GKernel) : CFD := ⟨127, [.agg [ro 33 1 eIntS k.Machine.Frames.Cells, ro 4 1 Tr.eB k.Machine.Frames.Used, ro 45 2 eEntry k.Machine.Table.Entries, (CV.lit (.int .i64 (k.Calls))), ro 3 1 Tr.eI k.Refuse]], [], (TV.sv (.one (.lit (.bool (pKernelOk k))))), [], [], []⟩
theorem fn_KOk (k : GKernel) (hs : szK8 k) : Fn Tryz.prog (c_KOk k) := by
  have hr := hs.r
  refine fn_intro tt_ok Tryz.func127 rfl Tryz.call127 Tryz.ntmps127 Tryz.results127 rfl rfl rfl rfl ?_
  intro X ρ0 hb_ hgl_
  dsimp only [c_KOk]
  try refine nrm ?_
  repeat' (refine ar_id ?_; first | refine st1 ?_ | (first | ((first | refine ar_region tt_ok (inps := []) rfl ?_ ?_); rotate_left; (try refine nrm ?_); rotate_right) | refine ret3 ?_ | refine end3 ?_) | (refine ar_cond rfl trivial ?_ ?_ <;> intro hc_ <;> (try simp only [isNilI, inB, reduceCtorEq, cds] at hc_) <;> (try (first | contradiction | (exfalso; omega)))) | refine ar_until (And.intro ?_ (wk3 ?_)))
  all_goals (first | refine ar_id ?_ | (try (focus ((try refine nrmO ?_); (repeat' (first | exact True.intro | refine And.intro ?_ ?_)); all_goals (try (intro (hg_ : _ = true); (try simp only [isNilI, inB, reduceCtorEq, cds] at hg_); (repeat' (first | exact True.intro | refine And.intro ?_ ?_)))); all_goals (first | exact ob1 | skip)))))
  refine ar_keep 15 (by dsimp only [keepS] <;> exact rfl) ?_
  refine ar_forM (k.Refuse.length) (fun i => ∀ y ∈ k.Refuse.take i, 0 ≤ y) (fun i => [(3, (TV.sv (.one (.lit (.int .i64 (i))))))]) (fun i => []) ?_ ?_ ?_
  rotate_left
  · first | trivial | simp
  (dsimp only [rnCap, capSVs, Int.toNat_natCast, ro, Nat.reduceAdd, Nat.reduceMul, Nat.zero_add, List.map, putT, app, wrapG, gOb, argT, keys, slotOf, dropped, gAnd, wB, rnT, rnS, rnC, rnCs, rnSs, rnM, rnB, rnN, rn, lk, St.over, ded, delL, keepT, menT, menSs, menS, menCs, menC, hasN, resT, SV.cells]; refine wk3 ?_; (focus ((try refine nrmO ?_); (repeat' (first | exact True.intro | refine And.intro ?_ ?_)); all_goals (try (intro (hg_ : _ = true); (try simp only [isNilI, inB, reduceCtorEq, cds] at hg_); (repeat' (first | exact True.intro | refine And.intro ?_ ?_)))); all_goals (first | exact ob1 | exact rfl | skip))))
  rotate_right
  intro i hi_ hiI_
  dsimp only [rnCap, capSVs, Int.toNat_natCast, ro, Nat.reduceAdd, Nat.reduceMul, Nat.zero_add, List.map, putT, app, wrapG, gOb, argT, keys, slotOf, dropped, gAnd, wB, rnT, rnS, rnC, rnCs, rnSs, rnM, rnB, rnN, rn, lk, St.over, ded, delL, keepT, menT, menSs, menS, menCs, menC, hasN, resT, SV.cells]
  repeat' (refine ar_id ?_; first | refine st1 ?_ | (first | ((first | refine ar_region (id := 4) tt_ok (inps := [.elem (Tr.eI (k.Refuse.getD i 0))]) rfl ?_ ?_ | refine ar_region (id := 6) tt_ok (inps := [.call (c_MOk k.Machine), .call (c_In k.Calls 0 100000)]) rfl ?_ ?_ | refine ar_region tt_ok (inps := []) rfl ?_ ?_); rotate_left; (try dsimp only [c_In, c_MOk]); (try refine nrm ?_); rotate_right) | refine ret3 ?_ | refine end3 ?_) | (refine ar_cond rfl trivial ?_ ?_ <;> intro hc_ <;> (try simp only [isNilI, inB, reduceCtorEq, cds] at hc_) <;> (try (first | contradiction | (exfalso; omega)))) | refine ar_until (And.intro ?_ (wk3 ?_)))
  all_goals (first | refine ar_id ?_ | (try (focus ((try refine nrmO ?_); (repeat' (first | exact True.intro | refine And.intro ?_ ?_)); all_goals (try (intro (hg_ : _ = true); (try simp only [isNilI, inB, reduceCtorEq, cds] at hg_); (repeat' (first | exact True.intro | refine And.intro ?_ ?_)))); all_goals (first | exact ob1 | exact fn_MOk _ hs.m | exact fn_In _ _ _ | skip)))))
  · exact bf fun h => by have := h.2.2.1 _ (getD_in (l := k.Refuse) (i := i) (d := 0) (by omega)); omega
  · exact all_take (d := 0) hiI_ (by omega) hc_
  · have hre := all_full hiI_ (by omega)
    refine congrArg Value.bool (Bool.eq_iff_iff.2 (Iff.trans ?_ (decide_eq_true_iff (p := okK k)).symm))
    simp only [decide_eq_true_eq, Bool.cond_false_right, Bool.and_eq_true, inB_iff, pMachineOk]
    exact ⟨fun h => ⟨h.1.1, h.1.2, hre, by omega⟩, fun h => ⟨⟨h.1, h.2.1⟩, by have := h.2.2.2; omega⟩⟩
def c_Call (k : GKernel) : CFD := ⟨129, [.one (.box 0 0)], [(0, some (.box 35 [.hd 1, .hd 2, .hd 3, (CV.lit (.int .i64 (k.Calls))), .hd 4])), (1, some (.row 33 1 (k.Machine.Frames.Cells.map eIntS))), (2, some (.row 4 1 (k.Machine.Frames.Used.map Tr.eB))), (3, some (.row 45 2 (k.Machine.Table.Entries.map eEntry))), (4, some (.row 3 1 (k.Refuse.map Tr.eI)))], (TV.sv (.one (.lit (.bool (decide (granted k)))))), [(0, some (.box 35 [.hd 1, .hd 2, .hd 3, (CV.lit (.int .i64 ((⟨k.Machine, k.Calls + 1, k.Refuse⟩ : GKernel).Calls))), .hd 4])), (1, some (.row 33 1 ((⟨k.Machine, k.Calls + 1, k.Refuse⟩ : GKernel).Machine.Frames.Cells.map eIntS))), (2, some (.row 4 1 ((⟨k.Machine, k.Calls + 1, k.Refuse⟩ : GKernel).Machine.Frames.Used.map Tr.eB))), (3, some (.row 45 2 ((⟨k.Machine, k.Calls + 1, k.Refuse⟩ : GKernel).Machine.Table.Entries.map eEntry))), (4, some (.row 3 1 ((⟨k.Machine, k.Calls + 1, k.Refuse⟩ : GKernel).Refuse.map Tr.eI)))], [], []⟩
theorem fn_Call (k : GKernel) (hs : szK8 k) (h0 : 0 ≤ k.Calls) (h1 : k.Calls < 100000) : Fn Tryz.prog (c_Call k) := by
  have hr := hs.r
  refine fn_intro tt_ok Tryz.func129 rfl Tryz.call129 Tryz.ntmps129 Tryz.results129 rfl rfl rfl rfl ?_
  intro X ρ0 hb_ hgl_
  dsimp only [c_Call]
  try refine nrm ?_
  repeat' (refine ar_id ?_; first | refine st1 ?_ | (first | ((first | refine ar_draw (id := 2) (inps := [.call (c_Has k.Refuse k.Calls)]) tt_ok (by kernel_rfl) rfl rfl (by kernel_rfl) rfl rfl rfl rfl ?_ ?_ | refine ar_region tt_ok (inps := []) rfl ?_ ?_); rotate_left; (try dsimp only [c_Has]); (try refine nrm ?_); rotate_right) | refine ret3 ?_ | refine end3 ?_) | (refine ar_cond rfl trivial ?_ ?_ <;> intro hc_ <;> (try simp only [isNilI, inB, reduceCtorEq, cds] at hc_) <;> (try (first | contradiction | (exfalso; omega)))) | refine ar_until (And.intro ?_ (wk3 ?_)))
  all_goals (first | refine ar_id ?_ | (try (focus ((try refine nrmO ?_); (repeat' (first | exact True.intro | refine And.intro ?_ ?_)); all_goals (try (intro (hg_ : _ = true); (try simp only [isNilI, inB, reduceCtorEq, cds] at hg_); (repeat' (first | exact True.intro | refine And.intro ?_ ?_)))); all_goals (first | exact ob1 | exact fn_Has _ _ hs.r | skip)))))
  · refine congrArg Value.bool ?_
    unfold granted
    by_cases h : k.Calls ∈ k.Refuse <;> simp [h]
  all_goals rfl
def c_Mode (k : GKernel) (page v : Int) : CFD := ⟨107, [.one (.box 0 0), (SV.one (.lit (.int .i64 (page))))], [(0, some (.box 35 [.hd 1, .hd 2, .hd 3, (CV.lit (.int .i64 (k.Calls))), .hd 4])), (1, some (.row 33 1 (k.Machine.Frames.Cells.map eIntS))), (2, some (.row 4 1 (k.Machine.Frames.Used.map Tr.eB))), (3, some (.row 45 2 (k.Machine.Table.Entries.map eEntry))), (4, some (.row 3 1 (k.Refuse.map Tr.eI)))], (TV.sv (.one (.lit (.int .i64 (v))))), [(0, some (.box 35 [.hd 1, .hd 2, .hd 3, (CV.lit (.int .i64 (k.Calls))), .hd 4])), (1, some (.row 33 1 (k.Machine.Frames.Cells.map eIntS))), (2, some (.row 4 1 (k.Machine.Frames.Used.map Tr.eB))), (3, some (.row 45 2 (k.Machine.Table.Entries.map eEntry))), (4, some (.row 3 1 (k.Refuse.map Tr.eI)))], [], []⟩
theorem fn_Mode (k : GKernel) (page v : Int) (hs : szK8 k) (hv : modeOf k page = v) : Fn Tryz.prog (c_Mode k page v) := by
  refine fn_intro tt_ok Tryz.func107 rfl Tryz.call107 Tryz.ntmps107 Tryz.results107 rfl rfl rfl rfl ?_
  intro X ρ0 hb_ hgl_
  dsimp only [c_Mode]
  try refine nrm ?_
  repeat' (refine ar_id ?_; first | refine st1 ?_ | (first | ((first | refine ar_region (id := 1) tt_ok (inps := [.call (c_PageEntry k.Machine.Table page)]) rfl ?_ ?_ | refine ar_region tt_ok (inps := []) rfl ?_ ?_); rotate_left; (try dsimp only [c_PageEntry]); (try refine nrm ?_); rotate_right) | refine ret3 ?_ | refine end3 ?_) | (refine ar_cond rfl trivial ?_ ?_ <;> intro hc_ <;> (try simp only [isNilI, inB, reduceCtorEq, cds] at hc_) <;> (try (first | contradiction | (exfalso; omega)))) | refine ar_until (And.intro ?_ (wk3 ?_)))
  all_goals (first | refine ar_id ?_ | (try (focus ((try refine nrmO ?_); (repeat' (first | exact True.intro | refine And.intro ?_ ?_)); all_goals (try (intro (hg_ : _ = true); (try simp only [isNilI, inB, reduceCtorEq, cds] at hg_); (repeat' (first | exact True.intro | refine And.intro ?_ ?_)))); all_goals (first | exact ob1 | exact fn_PageEntry _ _ hs.m.e | exact congrArg (Value.int .i64) hv | skip)))))
def c_KNew (p f : Int) (r : List Int) : CFD := ⟨81, [(SV.one (.lit (.int .i64 (p)))), (SV.one (.lit (.int .i64 (f)))), .one (ro 3 1 Tr.eI r)], [], .tup [.agg [.hd 0, .hd 1, .hd 2, (CV.lit (.int .i64 ((pKernelNew p f r).1.Calls))), .hd 3], (SV.one (.lit (.bool ((pKernelNew p f r).2))))], [(0, some (.row 33 1 ((pKernelNew p f r).1.Machine.Frames.Cells.map eIntS))), (1, some (.row 4 1 ((pKernelNew p f r).1.Machine.Frames.Used.map Tr.eB))), (2, some (.row 45 2 ((pKernelNew p f r).1.Machine.Table.Entries.map eEntry))), (3, some (.row 3 1 ((pKernelNew p f r).1.Refuse.map Tr.eI)))], [0, 1, 2, 3], []⟩
theorem fn_KNew (p f : Int) (r : List Int) (hr : r.length ≤ 1048576) (hm : szM7 (pMachineNew p f).1) : Fn Tryz.prog (c_KNew p f r) := by
  have hr' : (r.map Tr.eI).length ≤ 1048576 := by simpa using hr
  have hr2 : ([] : List D).length + (r.map Tr.eI).length ≤ 2097152 := by simp only [lns]; omega
  by_cases hN : (pMachineNew p f).2 = true ∧ okK ⟨(pMachineNew p f).1, 0, r⟩
  · have hV : pKernelNew p f r = (⟨(pMachineNew p f).1, 0, r⟩, true) := by unfold pKernelNew; rw [if_pos hN]
    have hk : pKernelOk ⟨(pMachineNew p f).1, 0, r⟩ = true := decide_eq_true hN.2
    refine fn_intro tt_ok Tryz.func81 rfl Tryz.call81 Tryz.ntmps81 Tryz.results81 rfl rfl rfl rfl ?_
    intro X ρ0 hb_ hgl_
    dsimp only [c_KNew]
    try refine nrm ?_
    rw [hV]
    repeat' (refine ar_id ?_; first | refine st1 ?_ | (first | ((first | refine ar_region (id := 1) tt_ok (inps := [.call (c_MNew p f)]) rfl ?_ ?_ | refine ar_draw (id := 2) (inps := [.elems (r.map Tr.eI)]) tt_ok (by kernel_rfl) rfl rfl (by kernel_rfl) rfl rfl rfl rfl ?_ ?_ | refine ar_region (id := 3) tt_ok (inps := [.call (c_KOk ⟨(pMachineNew p f).1, 0, r⟩)]) rfl ?_ ?_ | refine ar_region tt_ok (inps := []) rfl ?_ ?_); rotate_left; (try dsimp only [c_KOk, c_MNew]); (try refine nrm ?_); rotate_right) | refine ret3 ?_ | refine end3 ?_) | (refine ar_cond rfl trivial ?_ ?_ <;> intro hc_ <;> (try simp only [isNilI, inB, reduceCtorEq, cds] at hc_) <;> (try (first | contradiction | (exfalso; omega)))) | refine ar_until (And.intro ?_ (wk3 ?_)))
    all_goals (first | refine ar_id ?_ | (try (focus ((try refine nrmO ?_); (repeat' (first | exact True.intro | refine And.intro ?_ ?_)); all_goals (try (intro (hg_ : _ = true); (try simp only [isNilI, inB, reduceCtorEq, cds] at hg_); (repeat' (first | exact True.intro | refine And.intro ?_ ?_)))); all_goals (first | exact ob1 | exact fn_MNew _ _ | exact flat_map' r (fun x => ⟨rfl, rfl, trivial⟩) | exact hr' | exact hr2 | exact fn_KOk _ ⟨hm, hr⟩ | skip)))))
    exfalso
    rcases hc_ with h | h
    · rw [hN.1] at h; cases h
    · rw [hk] at h; cases h
  · have hV : pKernelNew p f r = (noK, false) := by unfold pKernelNew; rw [if_neg hN]
    refine fn_intro tt_ok Tryz.func81 rfl Tryz.call81 Tryz.ntmps81 Tryz.results81 rfl rfl rfl rfl ?_
    intro X ρ0 hb_ hgl_
    dsimp only [c_KNew]
    try refine nrm ?_
    rw [hV]
    repeat' (refine ar_id ?_; first | refine st1 ?_ | (first | ((first | refine ar_region (id := 1) tt_ok (inps := [.call (c_MNew p f)]) rfl ?_ ?_ | refine ar_draw (id := 2) (inps := [.elems (r.map Tr.eI)]) tt_ok (by kernel_rfl) rfl rfl (by kernel_rfl) rfl rfl rfl rfl ?_ ?_ | refine ar_region (id := 3) tt_ok (inps := [.call (c_KOk ⟨(pMachineNew p f).1, 0, r⟩)]) rfl ?_ ?_ | refine ar_region tt_ok (inps := []) rfl ?_ ?_); rotate_left; (try dsimp only [c_KOk, c_MNew]); (try refine nrm ?_); rotate_right) | refine ret3 ?_ | refine end3 ?_) | (refine ar_cond rfl trivial ?_ ?_ <;> intro hc_ <;> (try simp only [isNilI, inB, reduceCtorEq, cds] at hc_) <;> (try (first | contradiction | (exfalso; omega)))) | refine ar_until (And.intro ?_ (wk3 ?_)))
    all_goals (first | refine ar_id ?_ | (try (focus ((try refine nrmO ?_); (repeat' (first | exact True.intro | refine And.intro ?_ ?_)); all_goals (try (intro (hg_ : _ = true); (try simp only [isNilI, inB, reduceCtorEq, cds] at hg_); (repeat' (first | exact True.intro | refine And.intro ?_ ?_)))); all_goals (first | exact ob1 | exact fn_MNew _ _ | exact flat_map' r (fun x => ⟨rfl, rfl, trivial⟩) | exact hr' | exact hr2 | exact fn_KOk _ ⟨hm, hr⟩ | skip)))))
    · refine ar_nilB (b := 6) (j := 0) (T := 33) (q := 1) (r := 90000) rfl rfl rfl rfl rfl ?_
      try dsimp only [putL]
      refine ar_nilB (b := 6) (j := 1) (T := 4) (q := 1) (r := 90001) rfl rfl rfl rfl rfl ?_
      try dsimp only [putL]
      refine ar_nilB (b := 6) (j := 2) (T := 45) (q := 2) (r := 90002) rfl rfl rfl rfl rfl ?_
      try dsimp only [putL]
      refine ar_nilB (b := 6) (j := 4) (T := 3) (q := 1) (r := 90003) rfl rfl rfl rfl rfl ?_
      try dsimp only [putL]
      repeat' (refine ar_id ?_; first | refine st1 ?_ | (first | ((first | refine ar_region tt_ok (inps := []) rfl ?_ ?_); rotate_left; (try refine nrm ?_); rotate_right) | refine ret3 ?_ | refine end3 ?_) | (refine ar_cond rfl trivial ?_ ?_ <;> intro hc_ <;> (try simp only [isNilI, inB, reduceCtorEq, cds] at hc_) <;> (try (first | contradiction | (exfalso; omega)))) | refine ar_until (And.intro ?_ (wk3 ?_)))
      all_goals (first | refine ar_id ?_ | (try (focus ((try refine nrmO ?_); (repeat' (first | exact True.intro | refine And.intro ?_ ?_)); all_goals (try (intro (hg_ : _ = true); (try simp only [isNilI, inB, reduceCtorEq, cds] at hg_); (repeat' (first | exact True.intro | refine And.intro ?_ ?_)))); all_goals (first | exact ob1 | skip)))))
      rfl
    all_goals exact absurd ⟨hc_.1, of_decide_eq_true hc_.2⟩ hN
end Eng
end Go.Proofs.YtlkkiopjknbomaaGreatDoor
namespace Go.Proofs.YtlkkiopjknbomaaGreatDoor
open Go.RowKit
set_option linter.unusedVariables false
set_option linter.unusedSimpArgs false
namespace Tr
def mayJ (k : GKernel) (j : GJob) : Prop := canCall k ∧ okJ j ∧ modeOf k j.Plan.Keep ≠ 0 ∧ modeOf k j.Plan.Move ≠ 0 ∧ (pPageEntry k.Machine.Table j.Plan.Keep).Frame ≠ (pPageEntry k.Machine.Table j.Plan.Move).Frame
instance (k : GKernel) (j : GJob) : Decidable (mayJ k j) := by unfold mayJ; infer_instance
/-- the cell of number n -/
def cellJ (j : GJob) (n : Int) : Int := j.Plan.Cells.getD n.toNat 0
/-- one step, where one may be performed -/
def stepJ (k : GKernel) (j : GJob) : GKernel × GJob :=
  if j.Phase = 0 then ((pProtect k j.Plan.Move 1).1, ⟨j.Plan, if (pProtect k j.Plan.Move 1).2 = true then 1 else 5, j.Next⟩)
  else if j.Phase = 1 then
    if j.Next = (j.Plan.Cells.length : Int) then (k, ⟨j.Plan, 2, j.Next⟩) else ((pCells k j.Plan.Move j.Plan.Keep [cellJ j j.Next]).1, ⟨j.Plan, j.Phase, j.Next + 1⟩)
  else if j.Phase = 2 then ((pOn k j.Plan.Move j.Plan.Keep).1, ⟨j.Plan, if (pOn k j.Plan.Move j.Plan.Keep).2 = true then 4 else 3, j.Next⟩)
  else if j.Phase = 3 then
    if 0 < j.Next then (⟨(pStore k.Machine (j.Plan.Keep * 16 + cellJ j (j.Next - 1)) 0).1, k.Calls, k.Refuse⟩, ⟨j.Plan, j.Phase, j.Next - 1⟩)
    else ((pProtect k j.Plan.Move 2).1, ⟨j.Plan, if (pProtect k j.Plan.Move 2).2 = true then 5 else j.Phase, j.Next⟩)
  else (k, j)
def pJobStep (k : GKernel) (j : GJob) : GKernel × GJob := if mayJ k j then stepJ k j else (k, j)
/-- at most n steps -/
def runJ : Nat → GKernel × GJob → GKernel × GJob
  | 0, s => s
  | n + 1, s => if ¬ overJ s.2 ∧ mayJ s.1 s.2 then runJ n (stepJ s.1 s.2) else s
def pJobRun (k : GKernel) (j : GJob) (most : Int) : GKernel × GJob := if 0 ≤ most ∧ most ≤ 200 then runJ most.toNat (k, j) else (k, j)
theorem runJ_stop {s : GKernel × GJob} (h : ¬ (¬ overJ s.2 ∧ mayJ s.1 s.2)) : ∀ n, runJ n s = s
  | 0 => rfl
  | n + 1 => if_neg h
theorem runJ_add : ∀ (a b : Nat) (s : GKernel × GJob), runJ (a + b) s = runJ b (runJ a s)
  | 0, b, s => by rw [Nat.zero_add]; rfl
  | a + 1, b, s => by
    rw [Nat.add_right_comm]
    by_cases h : ¬ overJ s.2 ∧ mayJ s.1 s.2
    · show (if _ then _ else _) = runJ b (if _ then _ else _)
      rw [if_pos h, if_pos h]
      exact runJ_add a b _
    · rw [runJ_stop h, runJ_stop h, runJ_stop h]
theorem runJ_succ (n : Nat) (s : GKernel × GJob) : runJ (n + 1) s = (if ¬ overJ (runJ n s).2 ∧ mayJ (runJ n s).1 (runJ n s).2 then stepJ (runJ n s).1 (runJ n s).2 else runJ n s) := by
  rw [runJ_add n 1 s]; rfl
end Tr
end Go.Proofs.YtlkkiopjknbomaaGreatDoor
namespace Go.Proofs.YtlkkiopjknbomaaGreatDoor
open Go.RowKit
set_option linter.unusedVariables false
set_option linter.unusedSimpArgs false
set_option maxRecDepth 100000
namespace Eng
open Tr
def c_StoreS (m : GMachine) (addr v : Int) (m' : GMachine) (x : Int) : CFD := ⟨87, [.agg [ro 33 1 eIntS m.Frames.Cells, ro 4 1 Tr.eB m.Frames.Used, ro 45 2 eEntry m.Table.Entries], (SV.one (.lit (.int .i64 (addr)))), (SV.one (.lit (.int .i64 (v))))], [], .tup [.agg [.hd 0, .hd 1, .hd 2], (SV.one (.lit (.int .i64 (x))))], [(0, some (.row 33 1 ((m').Frames.Cells.map eIntS))), (1, some (.row 4 1 ((m').Frames.Used.map Tr.eB))), (2, some (.row 45 2 ((m').Table.Entries.map eEntry)))], [0, 1, 2], []⟩
theorem fn_StoreS (m : GMachine) (addr v : Int) (m' : GMachine) (x : Int) (hs : szM7 m) (ha : addr ≤ 1000000) (hx : pStore m addr v = (m', x)) : Fn Tryz.prog (c_StoreS m addr v m' x) := by
  unfold pStore at hx
  by_cases hC : canLoad m addr
  · have hok : pMachineOk m = true := decide_eq_true hC.1
    have hne := hC.2
    rw [if_pos hC] at hx
    by_cases h1 : (pEntry m addr).1.Mode = 1
    · rw [if_pos h1] at hx
      obtain ⟨rfl, rfl⟩ := Prod.mk.inj hx
      refine fn_intro tt_ok Tryz.func87 rfl Tryz.call87 Tryz.ntmps87 Tryz.results87 rfl rfl rfl rfl ?_
      intro X ρ0 hb_ hgl_
      dsimp only [c_StoreS]
      try refine nrm ?_
      repeat' (refine ar_id ?_; first | refine st1 ?_ | (first | ((first | refine ar_region (id := 1) tt_ok (inps := [.call (c_Copy7 m)]) rfl ?_ ?_ | refine ar_region (id := 2) tt_ok (inps := [.call (c_EntR m addr 1 (pEntry m addr).1.Frame (pEntry m addr).2)]) rfl ?_ ?_ | refine ar_region (id := 3) tt_ok (inps := [.call (c_MOk m)]) rfl ?_ ?_ | refine ar_region tt_ok (inps := []) rfl ?_ ?_); rotate_left; (try dsimp only [c_Copy7, c_EntR, c_MOk]); (try refine nrm ?_); rotate_right) | refine ret3 ?_ | refine end3 ?_) | (refine ar_cond rfl trivial ?_ ?_ <;> intro hc_ <;> (try simp only [isNilI, inB, reduceCtorEq, cds] at hc_) <;> (try (first | contradiction | (exfalso; omega) | (exfalso; grind)))) | refine ar_until (And.intro ?_ (wk3 ?_)))
      all_goals (first | refine ar_id ?_ | (try (focus ((try refine nrmO ?_); (repeat' (first | exact True.intro | refine And.intro ?_ ?_)); all_goals (try (intro (hg_ : _ = true); (try simp only [isNilI, inB, reduceCtorEq, cds] at hg_); (repeat' (first | exact True.intro | refine And.intro ?_ ?_)))); all_goals (first | exact ob1 | exact fn_Copy7 m hs | exact fn_EntR m addr _ _ _ hs ha h1 rfl rfl | exact fn_MOk m hs | skip)))))
    · rw [if_neg h1] at hx
      obtain ⟨_, f, k, r, hf, hk, k1, k2, _, k3, k4⟩ := load_at hC
      by_cases hv : 0 ≤ v ∧ v ≤ 999
      · rw [if_pos hv] at hx
        obtain ⟨rfl, rfl⟩ := Prod.mk.inj hx
        have h2 : (pEntry m addr).1.Mode = 2 := by
          have he : (pEntry m addr).1 ∈ m.Table.Entries ∨ (pEntry m addr).1 = ⟨0, 0⟩ := by
            unfold pEntry pPageEntry
            split
            · exact .inr rfl
            · dsimp only
              split
              · left
                rw [List.getD_eq_getElem?_getD, List.getElem?_eq_getElem (by omega)]
                exact List.getElem_mem _
              · exact .inr rfl
          rcases he with he | he
          · have h2 := hC.1.2.1
            unfold pTableOk at h2
            rcases (of_decide_eq_true h2).1 _ he with ⟨h0, _⟩ | ⟨h0, _⟩
            · exact absurd h0 hne
            · rcases h0 with h0 | h0
              · exact absurd h0 h1
              · exact h0
          · rw [he] at hne; exact absurd rfl hne
        exact fn_Store7 m addr v hs ha hC h2 hv
      · rw [if_neg hv] at hx
        obtain ⟨rfl, rfl⟩ := Prod.mk.inj hx
        have hb : inB v 0 999 = false := by cases hb : inB v 0 999 with | false => rfl | true => exact absurd (inB_iff.1 hb) hv
        refine fn_intro tt_ok Tryz.func87 rfl Tryz.call87 Tryz.ntmps87 Tryz.results87 rfl rfl rfl rfl ?_
        intro X ρ0 hb_ hgl_
        dsimp only [c_StoreS]
        try refine nrm ?_
        repeat' (refine ar_id ?_; first | refine st1 ?_ | (first | ((first | refine ar_region (id := 1) tt_ok (inps := [.call (c_Copy7 m)]) rfl ?_ ?_ | refine ar_region (id := 2) tt_ok (inps := [.call (c_EntR m addr (pEntry m addr).1.Mode (pEntry m addr).1.Frame (pEntry m addr).2)]) rfl ?_ ?_ | refine ar_region (id := 3) tt_ok (inps := [.call (c_MOk m)]) rfl ?_ ?_ | refine ar_region (id := 7) tt_ok (inps := [.call (c_In v 0 999)]) rfl ?_ ?_ | refine ar_region tt_ok (inps := []) rfl ?_ ?_); rotate_left; (try dsimp only [c_Copy7, c_EntR, c_In, c_MOk]); (try refine nrm ?_); rotate_right) | refine ret3 ?_ | refine end3 ?_) | (refine ar_cond rfl trivial ?_ ?_ <;> intro hc_ <;> (try simp only [isNilI, inB, reduceCtorEq, cds] at hc_) <;> (try (first | contradiction | (exfalso; omega) | (exfalso; grind)))) | refine ar_until (And.intro ?_ (wk3 ?_)))
        all_goals (first | refine ar_id ?_ | (try (focus ((try refine nrmO ?_); (repeat' (first | exact True.intro | refine And.intro ?_ ?_)); all_goals (try (intro (hg_ : _ = true); (try simp only [isNilI, inB, reduceCtorEq, cds] at hg_); (repeat' (first | exact True.intro | refine And.intro ?_ ?_)))); all_goals (first | exact ob1 | exact fn_Copy7 m hs | exact fn_EntR m addr _ _ _ hs ha rfl rfl rfl | exact fn_MOk m hs | exact fn_In _ _ _ | skip)))))
  · rw [if_neg hC] at hx
    obtain ⟨rfl, rfl⟩ := Prod.mk.inj hx
    have hC' : ¬ (pMachineOk m = true ∧ (pEntry m addr).1.Mode ≠ 0) := fun hh => hC ⟨of_decide_eq_true hh.1, hh.2⟩
    refine fn_intro tt_ok Tryz.func87 rfl Tryz.call87 Tryz.ntmps87 Tryz.results87 rfl rfl rfl rfl ?_
    intro X ρ0 hb_ hgl_
    dsimp only [c_StoreS]
    try refine nrm ?_
    repeat' (refine ar_id ?_; first | refine st1 ?_ | (first | ((first | refine ar_region (id := 1) tt_ok (inps := [.call (c_Copy7 m)]) rfl ?_ ?_ | refine ar_region (id := 2) tt_ok (inps := [.call (c_EntR m addr (pEntry m addr).1.Mode (pEntry m addr).1.Frame (pEntry m addr).2)]) rfl ?_ ?_ | refine ar_region (id := 3) tt_ok (inps := [.call (c_MOk m)]) rfl ?_ ?_ | refine ar_region tt_ok (inps := []) rfl ?_ ?_); rotate_left; (try dsimp only [c_Copy7, c_EntR, c_MOk]); (try refine nrm ?_); rotate_right) | refine ret3 ?_ | refine end3 ?_) | (refine ar_cond rfl trivial ?_ ?_ <;> intro hc_ <;> (try simp only [isNilI, inB, reduceCtorEq, cds] at hc_) <;> (try (first | contradiction | (exfalso; omega) | (exfalso; exact hC' ⟨by grind, by grind⟩)))) | refine ar_until (And.intro ?_ (wk3 ?_)))
    all_goals (first | refine ar_id ?_ | (try (focus ((try refine nrmO ?_); (repeat' (first | exact True.intro | refine And.intro ?_ ?_)); all_goals (try (intro (hg_ : _ = true); (try simp only [isNilI, inB, reduceCtorEq, cds] at hg_); (repeat' (first | exact True.intro | refine And.intro ?_ ?_)))); all_goals (first | exact ob1 | exact fn_Copy7 m hs | exact fn_EntR m addr _ _ _ hs ha rfl rfl rfl | exact fn_MOk m hs | skip)))))
end Eng
end Go.Proofs.YtlkkiopjknbomaaGreatDoor
namespace Go.Proofs.YtlkkiopjknbomaaGreatDoor
open Go.RowKit
set_option linter.unusedVariables false
set_option linter.unusedSimpArgs false
set_option maxRecDepth 100000
namespace Tr
/-- as0 large as0 before -/
structure sameSz (m m' : GMachine) : Prop where
  c : m'.Frames.Cells.length = m.Frames.Cells.length
  u : m'.Frames.Used.length = m.Frames.Used.length
  e : m'.Table.Entries.length = m.Table.Entries.length
  r : ∀ n, 16 ≤ n → (∀ r ∈ m.Frames.Cells, r.length ≤ n) → ∀ r ∈ m'.Frames.Cells, r.length ≤ n
theorem sameSz.refl (m : GMachine) : sameSz m m := ⟨rfl, rfl, rfl, fun _ _ h => h⟩
theorem sameSz.trans {a b c : GMachine} (h : sameSz a b) (h' : sameSz b c) : sameSz a c := ⟨h'.c.trans h.c, h'.u.trans h.u, h'.e.trans h.e, fun n hn hr => h'.r n hn (h.r n hn hr)⟩
theorem sz_entry (m : GMachine) (p : Nat) (e : GEntry) : sameSz m (setEntry m p e) := ⟨rfl, rfl, List.length_set, fun _ _ h => h⟩
theorem sz_cell (m : GMachine) (f k v : Int) : sameSz m (setCellOf m f k v) := by
  refine ⟨List.length_set, rfl, rfl, fun n hn h r hr => ?_⟩
  rcases List.mem_or_eq_of_mem_set hr with h1 | h1
  · exact h r h1
  · rw [h1, List.length_set]
    by_cases hf : f.toNat < m.Frames.Cells.length
    · refine h _ ?_
      rw [List.getD_eq_getElem?_getD, List.getElem?_eq_getElem hf]
      exact List.getElem_mem _
    · rw [List.getD_eq_getElem?_getD, List.getElem?_eq_none (by omega)]
      exact Nat.zero_le _
theorem sz_drop (m : GMachine) (f : Nat) : sameSz m (dropped m f) := by
  unfold dropped
  split
  · refine ⟨List.length_set, List.length_set, rfl, fun n hn h r hr => ?_⟩
    rcases List.mem_or_eq_of_mem_set hr with h1 | h1
    · exact h r h1
    · rw [h1, List.length_replicate]; exact hn
  · exact sameSz.refl m
theorem sz_step (k : GKernel) (j : GJob) : sameSz k.Machine (stepJ k j).1.Machine ∧ (stepJ k j).1.Refuse = k.Refuse ∧ (stepJ k j).2.Plan = j.Plan := by
  have hP : ∀ page mode, sameSz k.Machine (pProtect k page mode).1.Machine ∧ (pProtect k page mode).1.Refuse = k.Refuse := fun page mode => by
    unfold pProtect
    split
    · exact ⟨sz_entry _ _ _, rfl⟩
    · exact ⟨sameSz.refl _, rfl⟩
  have hO : ∀ page other, sameSz k.Machine (pOn k page other).1.Machine ∧ (pOn k page other).1.Refuse = k.Refuse := fun page other => by
    unfold pOn
    split
    · exact ⟨(sz_entry _ _ _).trans (sz_drop _ _), rfl⟩
    · exact ⟨sameSz.refl _, rfl⟩
  have hC : ∀ a b c, sameSz k.Machine (pCells k a b [c]).1.Machine ∧ (pCells k a b [c]).1.Refuse = k.Refuse := fun a b c => by
    unfold pCells
    split
    · exact ⟨sz_cell _ _ _ _, rfl⟩
    · exact ⟨sameSz.refl _, rfl⟩
  have hS : ∀ addr v, sameSz k.Machine (pStore k.Machine addr v).1 := fun addr v => by
    unfold pStore
    split
    · split
      · exact sameSz.refl _
      · split
        · exact sz_cell _ _ _ _
        · exact sameSz.refl _
    · exact sameSz.refl _
  unfold stepJ
  split
  · exact ⟨(hP _ _).1, (hP _ _).2, rfl⟩
  · split
    · split
      · exact ⟨sameSz.refl _, rfl, rfl⟩
      · exact ⟨(hC _ _ _).1, (hC _ _ _).2, rfl⟩
    · split
      · exact ⟨(hO _ _).1, (hO _ _).2, rfl⟩
      · split
        · split
          · exact ⟨hS _ _, rfl, rfl⟩
          · exact ⟨(hP _ _).1, (hP _ _).2, rfl⟩
        · exact ⟨sameSz.refl _, rfl, rfl⟩
theorem sz_run (k : GKernel) (j : GJob) : ∀ n, sameSz k.Machine (runJ n (k, j)).1.Machine ∧ (runJ n (k, j)).1.Refuse = k.Refuse ∧ (runJ n (k, j)).2.Plan = j.Plan
  | 0 => ⟨sameSz.refl _, rfl, rfl⟩
  | n + 1 => by
    obtain ⟨h1, h2, h3⟩ := sz_run k j n
    rw [runJ_succ]
    split
    · obtain ⟨a1, a2, a3⟩ := sz_step (runJ n (k, j)).1 (runJ n (k, j)).2
      exact ⟨h1.trans a1, a2.trans h2, a3.trans h3⟩
    · exact ⟨h1, h2, h3⟩
end Tr
end Go.Proofs.YtlkkiopjknbomaaGreatDoor
namespace Go.Proofs.YtlkkiopjknbomaaGreatDoor
open Go.RowKit
set_option linter.unusedVariables false
set_option linter.unusedSimpArgs false
namespace Eng
open Tr
theorem szK8_same {k k' : GKernel} (hs : szK8 k) (h : sameSz k.Machine k'.Machine) (hr : k'.Refuse = k.Refuse) : szK8 k' :=
  ⟨⟨by rw [h.c]; exact hs.m.c, by rw [h.u]; exact hs.m.u, h.r 1048576 (by decide) hs.m.r, by rw [h.e]; exact hs.m.e⟩, by rw [hr]; exact hs.r⟩
end Eng
end Go.Proofs.YtlkkiopjknbomaaGreatDoor
namespace Go.Proofs.YtlkkiopjknbomaaGreatDoor
open Go.RowKit
set_option linter.unusedVariables false
set_option linter.unusedSimpArgs false
set_option maxRecDepth 100000
namespace Eng
open Tr
theorem freeAt_lt : ∀ (i : Nat) (l : List Bool), freeAt i l = -1 ∨ ∃ j : Nat, j < l.length ∧ freeAt i l = ((i + j : Nat) : Int)
  | _, [] => .inl rfl
  | i, u :: l => by
    unfold freeAt
    cases u
    · exact .inr ⟨0, by simp, rfl⟩
    · rcases freeAt_lt (i + 1) l with h | ⟨j, h1, h2⟩
      · exact .inl h
      · exact .inr ⟨j + 1, by simp; omega, by rw [if_pos rfl, h2]; congr 1; omega⟩
def c_New (k : GKernel) (page : Int) : CFD := ⟨84, [.one (.box 0 0), (SV.one (.lit (.int .i64 (page))))], [(0, some (.box 35 [.hd 1, .hd 2, .hd 3, (CV.lit (.int .i64 (k.Calls))), .hd 4])), (1, some (.row 33 1 (k.Machine.Frames.Cells.map eIntS))), (2, some (.row 4 1 (k.Machine.Frames.Used.map Tr.eB))), (3, some (.row 45 2 (k.Machine.Table.Entries.map eEntry))), (4, some (.row 3 1 (k.Refuse.map Tr.eI)))], (TV.sv (.one (.lit (.bool ((pNew k page).2))))), [(0, some (.box 35 [.hd 1, .hd 2, .hd 3, (CV.lit (.int .i64 ((pNew k page).1.Calls))), .hd 4])), (1, some (.row 33 1 ((pNew k page).1.Machine.Frames.Cells.map eIntS))), (2, some (.row 4 1 ((pNew k page).1.Machine.Frames.Used.map Tr.eB))), (3, some (.row 45 2 ((pNew k page).1.Machine.Table.Entries.map eEntry))), (4, some (.row 3 1 ((pNew k page).1.Refuse.map Tr.eI)))], [], []⟩
set_option maxHeartbeats 2000000 in
theorem fn_New (k : GKernel) (page : Int) (hs : szK8 k) (h0 : 0 ≤ k.Calls) (h1 : k.Calls < 100000) : Fn Tryz.prog (c_New k page) := by
  have hfr : 0 ≤ pFree k.Machine.Frames → pFree k.Machine.Frames < k.Machine.Frames.Used.length := fun h => by
    rcases freeAt_lt 0 k.Machine.Frames.Used with h2 | ⟨j, h2, h3⟩
    · unfold pFree at h; omega
    · unfold pFree; omega
  have he := hs.m.e
  have hu := hs.m.u
  have hln : inK .i64 (((k.Machine.Table.Entries.map eEntry).length : Int) - 1) := by rw [List.length_map]; exact i64_ok (by omega) (by omega)
  by_cases hP : granted k ∧ (0 ≤ page ∧ page < k.Machine.Table.Entries.length)
  · have hin : inB page 0 (k.Machine.Table.Entries.length - 1) = true := inB_iff.2 (by omega)
    have hg := decide_eq_true hP.1
    have hG : (!(bif !decide (granted k) then true else !inB page 0 (k.Machine.Table.Entries.length - 1))) = true := by rw [hg, hin]; rfl
    by_cases hQ : modeOf k page = 0 ∧ 0 ≤ pFree k.Machine.Frames
    · have hV : pNew k page = (⟨setEntry ⟨⟨k.Machine.Frames.Cells, k.Machine.Frames.Used.set (pFree k.Machine.Frames).toNat true⟩, k.Machine.Table⟩ page.toNat ⟨2, pFree k.Machine.Frames⟩, k.Calls + 1, k.Refuse⟩, true) := by unfold pNew; rw [if_pos ⟨hP.1, hP.2, hQ⟩]
      have := hfr hQ.2
      refine fn_intro tt_ok Tryz.func84 rfl Tryz.call84 Tryz.ntmps84 Tryz.results84 rfl rfl rfl rfl ?_
      intro X ρ0 hb_ hgl_
      dsimp only [c_New]
      try refine nrm ?_
      rw [hV]
      repeat' (refine ar_id ?_; first | refine st1 ?_ | (first | ((first | refine ar_region (id := 1) tt_ok (inps := [.call (c_Free5 k.Machine.Frames)]) rfl ?_ ?_ | refine ar_region (id := 2) tt_ok (inps := [.call (c_Call k), .call (c_In page 0 (k.Machine.Table.Entries.length - 1)), .sure (c_Mode ⟨k.Machine, k.Calls + 1, k.Refuse⟩ page (modeOf k page))]) rfl ?_ ?_ | refine ar_region (id := 4) tt_ok (inps := [.elem (Tr.eB (k.Machine.Frames.Used.getD (pFree k.Machine.Frames).toNat false))]) rfl ?_ ?_ | refine ar_region (id := 5) tt_ok (inps := [.elem (eEntry (k.Machine.Table.Entries.getD page.toNat ⟨0, 0⟩))]) rfl ?_ ?_ | refine ar_region tt_ok (inps := []) rfl ?_ ?_); rotate_left; (try dsimp only [c_Call, c_Free5, c_In, c_Mode]); (try refine nrm ?_); rotate_right) | refine ret3 ?_ | refine end3 ?_) | (refine ar_cond rfl trivial ?_ ?_ <;> intro hc_ <;> (try simp only [isNilI, inB, reduceCtorEq, cds] at hc_) <;> (try (first | contradiction | (exfalso; omega)))) | refine ar_until (And.intro ?_ (wk3 ?_)))
      all_goals (first | refine ar_id ?_ | (try (focus ((try refine nrmO ?_); (repeat' (first | exact True.intro | refine And.intro ?_ ?_)); all_goals (try (intro (hg_ : _ = true); (try simp only [isNilI, inB, reduceCtorEq, cds] at hg_); (repeat' (first | exact True.intro | refine And.intro ?_ ?_)))); all_goals (first | exact ob1 | exact fn_Free5 _ hu | exact fn_Call _ hs h0 h1 | exact fn_In _ _ _ | exact fn_Mode _ _ _ ⟨hs.m, hs.r⟩ rfl | exact hG | exact hln | skip)))))
      all_goals first | rfl | exact List.map_set.symm | (exfalso; grind) | (show _ = (k.Machine.Table.Entries.set page.toNat ⟨2, pFree k.Machine.Frames⟩).map eEntry; rw [List.map_set]; rfl)
    · have hV : pNew k page = (called k, false) := by unfold pNew; rw [if_neg (fun h => hQ h.2.2)]
      refine fn_intro tt_ok Tryz.func84 rfl Tryz.call84 Tryz.ntmps84 Tryz.results84 rfl rfl rfl rfl ?_
      intro X ρ0 hb_ hgl_
      dsimp only [c_New]
      try refine nrm ?_
      rw [hV]
      repeat' (refine ar_id ?_; first | refine st1 ?_ | (first | ((first | refine ar_region (id := 1) tt_ok (inps := [.call (c_Free5 k.Machine.Frames)]) rfl ?_ ?_ | refine ar_region (id := 2) tt_ok (inps := [.call (c_Call k), .call (c_In page 0 (k.Machine.Table.Entries.length - 1)), .sure (c_Mode ⟨k.Machine, k.Calls + 1, k.Refuse⟩ page (modeOf k page))]) rfl ?_ ?_ | refine ar_region tt_ok (inps := []) rfl ?_ ?_); rotate_left; (try dsimp only [c_Call, c_Free5, c_In, c_Mode]); (try refine nrm ?_); rotate_right) | refine ret3 ?_ | refine end3 ?_) | (refine ar_cond rfl trivial ?_ ?_ <;> intro hc_ <;> (try simp only [isNilI, inB, reduceCtorEq, cds] at hc_) <;> (try (first | contradiction | (exfalso; omega)))) | refine ar_until (And.intro ?_ (wk3 ?_)))
      all_goals (first | refine ar_id ?_ | (try (focus ((try refine nrmO ?_); (repeat' (first | exact True.intro | refine And.intro ?_ ?_)); all_goals (try (intro (hg_ : _ = true); (try simp only [isNilI, inB, reduceCtorEq, cds] at hg_); (repeat' (first | exact True.intro | refine And.intro ?_ ?_)))); all_goals (first | exact ob1 | exact fn_Free5 _ hu | exact fn_Call _ hs h0 h1 | exact fn_In _ _ _ | exact fn_Mode _ _ _ ⟨hs.m, hs.r⟩ rfl | exact hG | exact hln | skip)))))
      all_goals first | rfl | (exfalso; grind)
  · have hb : decide (granted k) = false ∨ inB page 0 (k.Machine.Table.Entries.length - 1) = false := by
      by_cases h : granted k
      · right
        rw [← Bool.not_eq_true, inB_iff]
        exact fun h2 => hP ⟨h, by omega⟩
      · exact .inl (decide_eq_false h)
    have hG : (!(bif !decide (granted k) then true else !inB page 0 (k.Machine.Table.Entries.length - 1))) = false := by rcases hb with h | h <;> rw [h] <;> cases decide (granted k) <;> rfl
    have hV : pNew k page = (called k, false) := by unfold pNew; rw [if_neg (fun h => hP ⟨h.1, h.2.1⟩)]
    refine fn_intro tt_ok Tryz.func84 rfl Tryz.call84 Tryz.ntmps84 Tryz.results84 rfl rfl rfl rfl ?_
    intro X ρ0 hb_ hgl_
    dsimp only [c_New]
    try refine nrm ?_
    rw [hV]
    repeat' (refine ar_id ?_; first | refine st1 ?_ | (first | ((first | refine ar_region (id := 1) tt_ok (inps := [.call (c_Free5 k.Machine.Frames)]) rfl ?_ ?_ | refine ar_region (id := 2) tt_ok (inps := [.call (c_Call k), .call (c_In page 0 (k.Machine.Table.Entries.length - 1)), .skip (SV.one (.lit (.int .i64 (0))))]) rfl ?_ ?_ | refine ar_region tt_ok (inps := []) rfl ?_ ?_); rotate_left; (try dsimp only [c_Call, c_Free5, c_In]); (try refine nrm ?_); rotate_right) | refine ret3 ?_ | refine end3 ?_) | (refine ar_cond rfl trivial ?_ ?_ <;> intro hc_ <;> (try simp only [isNilI, inB, reduceCtorEq, cds] at hc_) <;> (try (first | contradiction | (exfalso; omega)))) | refine ar_until (And.intro ?_ (wk3 ?_)))
    all_goals (first | refine ar_id ?_ | (try (focus ((try refine nrmO ?_); (repeat' (first | exact True.intro | refine And.intro ?_ ?_)); all_goals (try (intro (hg_ : _ = true); (try simp only [isNilI, inB, reduceCtorEq, cds] at hg_); (repeat' (first | exact True.intro | refine And.intro ?_ ?_)))); all_goals (first | exact ob1 | exact fn_Free5 _ hu | exact fn_Call _ hs h0 h1 | exact fn_In _ _ _ | exact hG | exact hG.symm | exact hln | skip)))))
    all_goals first | rfl | (exfalso; grind)
end Eng
end Go.Proofs.YtlkkiopjknbomaaGreatDoor
namespace Go.Proofs.YtlkkiopjknbomaaGreatDoor
open Go.RowKit
set_option linter.unusedVariables false
set_option linter.unusedSimpArgs false
namespace Tr
theorem entry_of {t : GTable} {j : Nat} {e : GEntry} (h : t.Entries[j]? = some e) : pPageEntry t (j : Int) = e := by
  have hl := (List.getElem?_eq_some_iff.1 h).1
  unfold pPageEntry
  rw [if_pos ⟨by omega, by omega⟩, Int.toNat_natCast, List.getD_eq_getElem?_getD, h]
  rfl
theorem okF_row {fr : GFrames} (h : okF fr) {i : Nat} {u : Bool} {r : List Int} (hu : fr.Used[i]? = some u) (hr : okRow u r) : okF ⟨fr.Cells.set i r, fr.Used⟩ := by
  refine ⟨by simpa using h.1, by simpa using h.2.1, ?_⟩
  intro p hp
  obtain ⟨j, hj⟩ := List.getElem?_of_mem hp
  rw [List.getElem?_zip_eq_some] at hj
  obtain ⟨h1, h2⟩ := hj
  rw [List.getElem?_set] at h1
  by_cases e : i = j
  · subst e
    rw [if_pos rfl] at h1
    split at h1
    · have e1 : r = p.1 := Option.some.inj h1
      have e2 : u = p.2 := Option.some.inj (hu.symm.trans h2)
      rw [← e1, ← e2]; exact hr
    · cases h1
  · rw [if_neg e] at h1
    exact h.2.2 p (List.mem_of_getElem? (zip_at h1 h2))
/-- two mapped pages of a valid kernel, on frames of their own; K is kept, M is moved; the cells of the plan are 0 in K -/
structure Pr (k : GKernel) (p : GPlan) (K M f g : Nat) (rf rg : List Int) : Prop where
  ok : okK k
  plan : plOk p
  eK : p.Keep = (K : Int)
  eM : p.Move = (M : Int)
  keep : k.Machine.Table.Entries[K]? = some ⟨2, (f : Int)⟩
  move : k.Machine.Table.Entries[M]? = some ⟨2, (g : Int)⟩
  ne : f ≠ g
  rowF : k.Machine.Frames.Cells[f]? = some rf
  rowG : k.Machine.Frames.Cells[g]? = some rg
  onG : ∀ (j : Nat) (e : GEntry), k.Machine.Table.Entries[j]? = some e → e.Mode ≠ 0 → e.Frame = (g : Int) → j = M
  zero : ∀ c ∈ p.Cells, rf.getD c.toNat 0 = 0
  calls : k.Calls ≤ 1000
theorem mem_getD {l : List Int} {i : Nat} (h : i < l.length) : l.getD i 0 ∈ l := by
  rw [List.getD_eq_getElem?_getD, List.getElem?_eq_getElem h]
  exact List.getElem_mem _
theorem mgTo_mem {a b cells : List Int} (hb : b.length = 16) (hc : asc cells) : ∀ n, n ≤ cells.length → ∀ v ∈ mgTo a b cells n, v ∈ a ∨ v ∈ b
  | 0, _, v, hv => .inl hv
  | n + 1, hn, v, hv => by
    rcases List.mem_or_eq_of_mem_set hv with h | h
    · exact mgTo_mem hb hc n (by omega) v h
    · have := asc_at hc (i := n) (by omega)
      exact .inr (h ▸ mem_getD (by omega))
/-- the last cell set back -/
theorem mgTo_back {a b cells : List Int} (ha : a.length = 16) (hc : asc cells) (hz : ∀ c ∈ cells, a.getD c.toNat 0 = 0) {n : Nat} (hn : n < cells.length) : (mgTo a b cells (n + 1)).set (cells.getD n 0).toNat 0 = mgTo a b cells n := by
  have hr := asc_at hc hn
  refine List.ext_getElem? fun j => ?_
  by_cases hj : j < 16
  · have h1 := mgTo_at (move := b) ha hc hj n (by omega)
    have hl := mgTo_len a b cells n
    by_cases e : (cells.getD n 0).toNat = j
    · have hne : ¬ ∃ k, k < n ∧ cells.getD k 0 = (j : Int) := by
        rintro ⟨k, h2, h3⟩
        have hlt : ∀ d, k + d < cells.length → cells.getD k 0 + (d : Int) ≤ cells.getD (k + d) 0 := by
          intro d
          induction d with
          | zero => intro _; simp
          | succ d ih =>
            intro hd
            have h4 := ih (by omega)
            have h5 : cells.getD (k + d) 0 < cells.getD (k + d + 1) 0 := (hc (k + d + 1) (by omega)).1
            rw [← Nat.add_assoc]
            push_cast
            omega
        have h6 := hlt (n - k) (by omega)
        rw [show k + (n - k) = n by omega] at h6
        omega
      rw [if_neg hne] at h1
      have h0 := hz _ (mem_getD hn)
      rw [e] at h0
      rw [h0] at h1
      rw [e, List.getElem?_set_self (by unfold mgTo; rw [List.length_set]; omega), List.getElem?_eq_getElem (by omega)]
      rw [List.getD_eq_getElem?_getD, List.getElem?_eq_getElem (by omega)] at h1
      have h1' : (mgTo a b cells n)[j]'(by omega) = 0 := h1
      rw [h1']
    · rw [List.getElem?_set_ne e]
      show ((mgTo a b cells n).set _ _)[j]? = _
      rw [List.getElem?_set_ne e]
  · rw [List.getElem?_eq_none (by rw [List.length_set, mgTo_len]; omega), List.getElem?_eq_none (by rw [mgTo_len]; omega)]
/-- the machine while the job runs: n cells are copied -/
def midM (m : GMachine) (p : GPlan) (M f g : Nat) (rf rg : List Int) (md : Int) (n : Nat) : GMachine := ⟨⟨m.Frames.Cells.set f (mgTo rf rg p.Cells n), m.Frames.Used⟩, ⟨m.Table.Entries.set M ⟨md, (g : Int)⟩⟩⟩
/-- the machine behind the job -/
def endM (m : GMachine) (p : GPlan) (M f g : Nat) (rf rg : List Int) : GMachine := ⟨⟨(m.Frames.Cells.set f (mgTo rf rg p.Cells p.Cells.length)).set g (List.replicate 16 0), m.Frames.Used.set g false⟩, ⟨m.Table.Entries.set M ⟨2, (f : Int)⟩⟩⟩
theorem set_self {α : Type} {l : List α} {i : Nat} {x : α} (h : l[i]? = some x) : l.set i x = l := by
  refine List.ext_getElem? fun j => ?_
  rw [List.getElem?_set]
  split
  · rename_i e; subst e
    rw [if_pos (List.getElem?_eq_some_iff.1 h).1, h]
  · rfl
section
variable {k : GKernel} {p : GPlan} {K M f g : Nat} {rf rg : List Int}
theorem Pr.neKM (h : Pr k p K M f g rf rg) : K ≠ M := fun e => h.plan.1 (by rw [h.eK, h.eM, e])
theorem Pr.okF (h : Pr k p K M f g rf rg) : okF k.Machine.Frames := h.ok.1.1
theorem Pr.modeK (h : Pr k p K M f g rf rg) : pPageEntry k.Machine.Table p.Keep = ⟨2, (f : Int)⟩ := by rw [h.eK]; exact entry_of h.keep
theorem Pr.modeM (h : Pr k p K M f g rf rg) : pPageEntry k.Machine.Table p.Move = ⟨2, (g : Int)⟩ := by rw [h.eM]; exact entry_of h.move
theorem Pr.fl (h : Pr k p K M f g rf rg) : f < k.Machine.Frames.Cells.length := (List.getElem?_eq_some_iff.1 h.rowF).1
theorem Pr.gl (h : Pr k p K M f g rf rg) : g < k.Machine.Frames.Cells.length := (List.getElem?_eq_some_iff.1 h.rowG).1
theorem Pr.usedF (h : Pr k p K M f g rf rg) : k.Machine.Frames.Used[f]? = some true := okM_used h.ok.1 (page := p.Keep) (by rw [h.modeK]; dsimp only; decide) (by rw [h.modeK]) (by rw [h.okF.2.1]; exact h.fl)
theorem Pr.usedG (h : Pr k p K M f g rf rg) : k.Machine.Frames.Used[g]? = some true := okM_used h.ok.1 (page := p.Move) (by rw [h.modeM]; dsimp only; decide) (by rw [h.modeM]) (by rw [h.okF.2.1]; exact h.gl)
theorem Pr.okRf (h : Pr k p K M f g rf rg) : okRow true rf := h.okF.2.2 _ (List.mem_of_getElem? (zip_at h.rowF h.usedF))
theorem Pr.okRg (h : Pr k p K M f g rf rg) : okRow true rg := h.okF.2.2 _ (List.mem_of_getElem? (zip_at h.rowG h.usedG))
theorem Pr.okMg (h : Pr k p K M f g rf rg) {n : Nat} (hn : n ≤ p.Cells.length) : okRow true (mgTo rf rg p.Cells n) := by
  refine ⟨by rw [mgTo_len]; exact h.okRf.1, fun v hv => ?_⟩
  rcases mgTo_mem h.okRg.1 h.plan.2.2.2 n hn v hv with h1 | h1
  · exact h.okRf.2 v h1
  · exact h.okRg.2 v h1
theorem Pr.okRowM (h : Pr k p K M f g rf rg) {n : Nat} (hn : n ≤ p.Cells.length) : okM ⟨⟨k.Machine.Frames.Cells.set f (mgTo rf rg p.Cells n), k.Machine.Frames.Used⟩, k.Machine.Table⟩ := by
  obtain ⟨h1, h2, h3⟩ := h.ok.1
  refine ⟨okF_row h1 h.usedF (h.okMg hn), ?_, h3⟩
  show pTableOk k.Machine.Table (((k.Machine.Frames.Cells.set f _).length : Nat) : Int) = true
  rw [List.length_set]
  exact h2
theorem Pr.okMid (h : Pr k p K M f g rf rg) {md : Int} (hm : md = 1 ∨ md = 2) {n : Nat} (hn : n ≤ p.Cells.length) : okM (midM k.Machine p M f g rf rg md n) := by
  refine okM_same (e := ⟨md, (g : Int)⟩) (h.okRowM hn) h.move (by dsimp only; decide) (by show md ≠ 0; omega) rfl (.inr ⟨hm, by show (0 : Int) ≤ g; omega, ?_⟩)
  show (g : Int) < (((k.Machine.Frames.Cells.set f _).length : Nat) : Int)
  rw [List.length_set]
  have := h.gl
  omega
theorem Pr.midK (h : Pr k p K M f g rf rg) (md : Int) (n : Nat) : pPageEntry (midM k.Machine p M f g rf rg md n).Table p.Keep = ⟨2, (f : Int)⟩ := by
  rw [h.eK]
  refine entry_of ?_
  show (k.Machine.Table.Entries.set M _)[K]? = _
  rw [List.getElem?_set_ne (Ne.symm h.neKM)]
  exact h.keep
theorem Pr.midMv (h : Pr k p K M f g rf rg) (md : Int) (n : Nat) : pPageEntry (midM k.Machine p M f g rf rg md n).Table p.Move = ⟨md, (g : Int)⟩ := by
  rw [h.eM]
  refine entry_of ?_
  show (k.Machine.Table.Entries.set M _)[M]? = _
  rw [List.getElem?_set_self (List.getElem?_eq_some_iff.1 h.move).1]
theorem Pr.start (h : Pr k p K M f g rf rg) : midM k.Machine p M f g rf rg 2 0 = k.Machine := by
  unfold midM
  rw [set_self h.move, show mgTo rf rg p.Cells 0 = rf from rfl, set_self h.rowF]
theorem Pr.midF (h : Pr k p K M f g rf rg) (md : Int) (n : Nat) : (midM k.Machine p M f g rf rg md n).Frames.Cells[f]? = some (mgTo rf rg p.Cells n) := List.getElem?_set_self h.fl
theorem Pr.midG (h : Pr k p K M f g rf rg) (md : Int) (n : Nat) : (midM k.Machine p M f g rf rg md n).Frames.Cells[g]? = some rg := by
  show (k.Machine.Frames.Cells.set f _)[g]? = _
  rw [List.getElem?_set_ne h.ne]
  exact h.rowG
theorem getD_row {l : List (List Int)} {i : Nat} {r : List Int} (h : l[i]? = some r) : l.getD i [] = r := by rw [List.getD_eq_getElem?_getD, h]; rfl
theorem Pr.copy (h : Pr k p K M f g rf rg) (md : Int) {n : Nat} (hn : n < p.Cells.length) : copied (midM k.Machine p M f g rf rg md n) (g : Int) (f : Int) [p.Cells.getD n 0] = midM k.Machine p M f g rf rg md (n + 1) := by
  show setCellOf (midM k.Machine p M f g rf rg md n) (f : Int) (p.Cells.getD n 0) (cellOf (midM k.Machine p M f g rf rg md n) (g : Int) (p.Cells.getD n 0)) = _
  unfold setCellOf cellOf
  rw [Int.toNat_natCast, Int.toNat_natCast, getD_row (h.midF md n), getD_row (h.midG md n)]
  unfold midM
  simp only [List.set_set]
  rfl
theorem Pr.back (h : Pr k p K M f g rf rg) (md : Int) {n : Nat} (hn : n < p.Cells.length) : setCellOf (midM k.Machine p M f g rf rg md (n + 1)) (f : Int) (p.Cells.getD n 0) 0 = midM k.Machine p M f g rf rg md n := by
  unfold setCellOf
  rw [Int.toNat_natCast, getD_row (h.midF md (n + 1)), mgTo_back h.okRf.1 h.plan.2.2.2 h.zero hn]
  unfold midM
  simp only [List.set_set]
theorem Pr.final (h : Pr k p K M f g rf rg) : dropped (setEntry (midM k.Machine p M f g rf rg 1 p.Cells.length) M ⟨2, (f : Int)⟩) g = endM k.Machine p M f g rf rg := by
  have hno : (pPagesOn (setEntry (midM k.Machine p M f g rf rg 1 p.Cells.length) M ⟨2, (f : Int)⟩).Table (g : Int)).length = 0 := by
    have h1 : ¬ 0 < (pPagesOn (setEntry (midM k.Machine p M f g rf rg 1 p.Cells.length) M ⟨2, (f : Int)⟩).Table (g : Int)).length := by
      rw [pages_iff]
      rintro ⟨j, e, h1, h2, h3⟩
      have h1' : ((k.Machine.Table.Entries.set M ⟨1, (g : Int)⟩).set M ⟨2, (f : Int)⟩)[j]? = some e := h1
      rw [List.set_set] at h1'
      by_cases hj : M = j
      · subst hj
        rw [List.getElem?_set_self (List.getElem?_eq_some_iff.1 h.move).1] at h1'
        obtain rfl := Option.some.inj h1'
        have := h.ne
        have h3' : (f : Int) = g := h3
        omega
      · rw [List.getElem?_set_ne hj] at h1'
        exact hj (h.onG j e h1' h2 h3).symm
    omega
  unfold dropped
  rw [if_pos hno]
  unfold setEntry midM endM
  simp only [List.set_set]
/-- where a run stands -/
def At (k : GKernel) (p : GPlan) (M f g : Nat) (rf rg : List Int) (s : GKernel × GJob) : Prop :=
  s.2.Plan = p ∧ s.1.Refuse = k.Refuse ∧ k.Calls ≤ s.1.Calls ∧
    ((s.2.Phase = 0 ∧ s.2.Next = 0 ∧ s.1.Machine = k.Machine) ∨
     (∃ n : Nat, n ≤ p.Cells.length ∧ s.2.Phase = 1 ∧ s.2.Next = (n : Int) ∧ s.1.Machine = midM k.Machine p M f g rf rg 1 n) ∨
     (s.2.Phase = 2 ∧ s.2.Next = (p.Cells.length : Int) ∧ s.1.Machine = midM k.Machine p M f g rf rg 1 p.Cells.length) ∨
     (∃ n : Nat, n ≤ p.Cells.length ∧ s.2.Phase = 3 ∧ s.2.Next = (n : Int) ∧ s.1.Machine = midM k.Machine p M f g rf rg 1 n) ∨
     (s.2.Phase = 4 ∧ s.2.Next = (p.Cells.length : Int) ∧ s.1.Machine = endM k.Machine p M f g rf rg) ∨
     (s.2.Phase = 5 ∧ s.2.Next = 0 ∧ s.1.Machine = k.Machine))
/-- the refusals that are still to come -/
def rest (k : GKernel) : Nat := k.Refuse.countP fun r => decide (k.Calls ≤ r)
/-- a bound of the steps that are left -/
def left (s : GKernel × GJob) : Nat :=
  if s.2.Phase = 0 then 100
  else if s.2.Phase = 1 then 90 - s.2.Next.toNat
  else if s.2.Phase = 2 then 70
  else if s.2.Phase = 3 then 1 + s.2.Next.toNat + rest s.1
  else 0
theorem rest_le (k : GKernel) : rest k ≤ k.Refuse.length := List.countP_le_length
theorem rest_call {k : GKernel} (h : ¬ granted k) (m : GMachine) : rest ⟨m, k.Calls + 1, k.Refuse⟩ < rest k := by
  have hm : k.Calls ∈ k.Refuse := Decidable.not_not.1 h
  unfold rest
  dsimp only
  generalize k.Refuse = l at hm ⊢
  generalize k.Calls = c at hm ⊢
  have hle : ∀ l : List Int, l.countP (fun r => decide (c + 1 ≤ r)) ≤ l.countP (fun r => decide (c ≤ r)) := fun l => List.countP_mono_left fun x _ hx => by
    simp only [decide_eq_true_eq] at hx ⊢; omega
  induction l with
  | nil => cases hm
  | cons x l ih =>
    rw [List.countP_cons, List.countP_cons]
    by_cases e : x = c
    · have := hle l
      rw [if_neg (by simp; omega), if_pos (by simp; omega)]
      omega
    · have h2 := ih (by rcases List.mem_cons.1 hm with h | h; exact absurd h.symm e; exact h)
      have : (if decide (c + 1 ≤ x) = true then 1 else 0) ≤ (if decide (c ≤ x) = true then (1 : Nat) else 0) := by
        by_cases h3 : c + 1 ≤ x
        · rw [if_pos (by simp; omega), if_pos (by simp; omega)]; exact Nat.le_refl _
        · rw [if_neg (by simp; omega)]; exact Nat.zero_le _
      omega
end
end Tr
end Go.Proofs.YtlkkiopjknbomaaGreatDoor
namespace Go.Proofs.YtlkkiopjknbomaaGreatDoor
open Go.RowKit
set_option linter.unusedVariables false
set_option linter.unusedSimpArgs false
namespace Tr
section
variable {k : GKernel} {p : GPlan} {K M f g : Nat} {rf rg : List Int}
theorem Pr.toM (h : Pr k p K M f g rf rg) : p.Move.toNat = M := by rw [h.eM]; rfl
theorem Pr.protect (h : Pr k p K M f g rf rg) (c : Int) (R : List Int) {md md' : Int} (hmd : md = 1 ∨ md = 2) (hmd' : md' = 1 ∨ md' = 2) (n : Nat) :
    pProtect ⟨midM k.Machine p M f g rf rg md n, c, R⟩ p.Move md' = if c ∉ R then (⟨midM k.Machine p M f g rf rg md' n, c + 1, R⟩, true) else (⟨midM k.Machine p M f g rf rg md n, c + 1, R⟩, false) := by
  have he := h.midMv md n
  unfold pProtect
  by_cases hg : c ∉ R
  · rw [if_pos hg, if_pos ⟨hg, by unfold modeOf; rw [he]; show md ≠ 0; omega, by omega⟩, h.toM, he]
    unfold setEntry midM
    simp only [List.set_set]
  · rw [if_neg hg, if_neg (fun hh => hg hh.1)]; rfl
theorem Pr.mapOn (h : Pr k p K M f g rf rg) (c : Int) (R : List Int) :
    pOn ⟨midM k.Machine p M f g rf rg 1 p.Cells.length, c, R⟩ p.Move p.Keep = if c ∉ R then (⟨endM k.Machine p M f g rf rg, c + 1, R⟩, true) else (⟨midM k.Machine p M f g rf rg 1 p.Cells.length, c + 1, R⟩, false) := by
  have he := h.midMv 1 p.Cells.length
  have hk := h.midK 1 p.Cells.length
  unfold pOn
  by_cases hg : c ∉ R
  · rw [if_pos hg, if_pos ⟨hg, by unfold modeOf; rw [he]; dsimp only; decide, by unfold modeOf; rw [hk]; dsimp only; decide, fun e => h.plan.1 e.symm⟩, h.toM, he, hk]
    dsimp only
    rw [Int.toNat_natCast, h.final]
  · rw [if_neg hg, if_neg (fun hh => hg hh.1)]; rfl
theorem Pr.cellStep (h : Pr k p K M f g rf rg) (c : Int) (R : List Int) {n : Nat} (hn : n < p.Cells.length) :
    pCells ⟨midM k.Machine p M f g rf rg 1 n, c, R⟩ p.Move p.Keep [p.Cells.getD n 0] = (⟨midM k.Machine p M f g rf rg 1 (n + 1), c, R⟩, true) := by
  have he := h.midMv 1 n
  have hk := h.midK 1 n
  have hr := asc_at h.plan.2.2.2 hn
  unfold pCells
  rw [if_pos ⟨⟨by unfold modeOf; rw [he]; dsimp only; decide, by unfold modeOf; rw [hk]; dsimp only; decide⟩, fun x hx => by rw [List.mem_singleton] at hx; rw [hx]; exact hr⟩, he, hk]
  dsimp only
  rw [h.copy 1 hn]
theorem Pr.entK (h : Pr k p K M f g rf rg) (m : GMachine) {c : Int} (hc : 0 ≤ c ∧ c ≤ 15) : pEntry m (p.Keep * 16 + c) = (pPageEntry m.Table p.Keep, c) := by
  obtain ⟨x, rfl⟩ := Int.eq_ofNat_of_zero_le hc.1
  rw [h.eK, show (K : Int) * 16 + (x : Int) = 16 * (K : Int) + (x : Int) by omega]
  exact entry_at m K x (by omega)
theorem Pr.storeStep (h : Pr k p K M f g rf rg) {n : Nat} (hn : n < p.Cells.length) :
    pStore (midM k.Machine p M f g rf rg 1 (n + 1)) (p.Keep * 16 + p.Cells.getD n 0) 0 = (midM k.Machine p M f g rf rg 1 n, 0) := by
  have hr := asc_at h.plan.2.2.2 hn
  have he := h.entK (midM k.Machine p M f g rf rg 1 (n + 1)) hr
  rw [h.midK 1 (n + 1)] at he
  have hc : canLoad (midM k.Machine p M f g rf rg 1 (n + 1)) (p.Keep * 16 + p.Cells.getD n 0) := ⟨h.okMid (.inl rfl) hn, by rw [he]; dsimp only; decide⟩
  unfold pStore
  rw [if_pos hc, he, if_neg (by dsimp only; decide), if_pos (by decide)]
  dsimp only
  rw [h.back 1 hn]
theorem Pr.okEnd (h : Pr k p K M f g rf rg) : okM (endM k.Machine p M f g rf rg) := by
  rw [← h.final]
  have hm : (midM k.Machine p M f g rf rg 1 p.Cells.length).Table.Entries[M]? = some ⟨1, (g : Int)⟩ := List.getElem?_set_self (List.getElem?_eq_some_iff.1 h.move).1
  have hk : (midM k.Machine p M f g rf rg 1 p.Cells.length).Table.Entries[K]? = some ⟨2, (f : Int)⟩ := by
    show (k.Machine.Table.Entries.set M _)[K]? = _
    rw [List.getElem?_set_ne (Ne.symm h.neKM)]
    exact h.keep
  refine okM_turn (h.okMid (.inl rfl) (Nat.le_refl _)) hm (by dsimp only; decide) rfl (.inr ⟨.inr rfl, by show (0 : Int) ≤ f; omega, ?_⟩) (fun _ => .inr ⟨K, _, h.neKM, hk, by dsimp only; decide, rfl⟩)
  show (f : Int) < (((k.Machine.Frames.Cells.set f _).length : Nat) : Int)
  rw [List.length_set]
  have := h.fl
  omega
theorem At.okMach (h : Pr k p K M f g rf rg) {s : GKernel × GJob} (ha : At k p M f g rf rg s) : okM s.1.Machine := by
  obtain ⟨_, _, _, hs⟩ := ha
  rcases hs with ⟨_, _, e⟩ | ⟨n, hn, _, _, e⟩ | ⟨_, _, e⟩ | ⟨n, hn, _, _, e⟩ | ⟨_, _, e⟩ | ⟨_, _, e⟩ <;> rw [e]
  · exact h.ok.1
  · exact h.okMid (.inl rfl) hn
  · exact h.okMid (.inl rfl) (Nat.le_refl _)
  · exact h.okMid (.inl rfl) hn
  · exact h.okEnd
  · exact h.ok.1
theorem At.okKer (h : Pr k p K M f g rf rg) {s : GKernel × GJob} (ha : At k p M f g rf rg s) (hc : s.1.Calls ≤ 100000) : okK s.1 := by
  have h1 := ha.okMach h
  obtain ⟨_, h2, h3, _⟩ := ha
  have h4 := h.ok.2
  exact ⟨h1, ⟨by omega, hc⟩, by rw [h2]; exact h4.2⟩
theorem At.okJob (h : Pr k p K M f g rf rg) {s : GKernel × GJob} (ha : At k p M f g rf rg s) : okJ s.2 := by
  obtain ⟨h1, _, _, hs⟩ := ha
  unfold okJ
  rw [h1]
  refine ⟨h.plan, ?_⟩
  rcases hs with ⟨a, b, _⟩ | ⟨n, hn, a, b, _⟩ | ⟨a, b, _⟩ | ⟨n, hn, a, b, _⟩ | ⟨a, b, _⟩ | ⟨a, b, _⟩ <;> omega
theorem At.may (h : Pr k p K M f g rf rg) {s : GKernel × GJob} (ha : At k p M f g rf rg s) (hc : s.1.Calls < 100000) (ho : ¬ overJ s.2) : mayJ s.1 s.2 := by
  have h1 := ha.okKer h (by omega)
  have h2 := ha.okJob h
  have hne := h.ne
  obtain ⟨e1, _, _, hs⟩ := ha
  have key : ∀ md n, md = 1 ∨ md = 2 → s.1.Machine = midM k.Machine p M f g rf rg md n → mayJ s.1 s.2 := fun md n hmd e => by
    refine ⟨⟨h1, hc⟩, h2, ?_, ?_, ?_⟩
    · unfold modeOf; rw [e1, e, h.midK]; dsimp only; decide
    · unfold modeOf; rw [e1, e, h.midMv]; show md ≠ 0; omega
    · rw [e1, e, h.midK, h.midMv]; show (f : Int) ≠ g; exact fun e => hne (Int.ofNat_inj.1 e)
  rcases hs with ⟨_, _, e⟩ | ⟨n, hn, _, _, e⟩ | ⟨_, _, e⟩ | ⟨n, hn, _, _, e⟩ | ⟨a, _⟩ | ⟨a, _⟩
  · exact key 2 0 (.inr rfl) (by rw [h.start]; exact e)
  · exact key 1 n (.inl rfl) e
  · exact key 1 _ (.inl rfl) e
  · exact key 1 n (.inl rfl) e
  · exact absurd (.inl a) ho
  · exact absurd (.inr a) ho
theorem At.step (h : Pr k p K M f g rf rg) {s : GKernel × GJob} (ha : At k p M f g rf rg s) (ho : ¬ overJ s.2) : At k p M f g rf rg (stepJ s.1 s.2) ∧ left (stepJ s.1 s.2) < left s ∧ (stepJ s.1 s.2).1.Calls ≤ s.1.Calls + 1 := by
  have hr40 := h.ok.2.2.2
  have hlen := asc_len h.plan.2.2.2
  obtain ⟨⟨m, c, R⟩, ⟨q, ph, nx⟩⟩ := s
  obtain ⟨e1, e2, e3, hs⟩ := ha
  dsimp only at e1 e2 e3 hs ho ⊢
  subst e1 e2
  rcases hs with ⟨a, b, e⟩ | ⟨n, hn, a, b, e⟩ | ⟨a, b, e⟩ | ⟨n, hn, a, b, e⟩ | ⟨a, _⟩ | ⟨a, _⟩
  · subst a b
    rw [← h.start] at e
    subst e
    have hp := h.protect c k.Refuse (md := 2) (md' := 1) (.inr rfl) (.inl rfl) 0
    unfold stepJ
    rw [if_pos rfl]
    dsimp only
    rw [hp]
    by_cases hg : c ∉ k.Refuse
    · rw [if_pos hg]
      refine ⟨⟨rfl, rfl, by show k.Calls ≤ c + 1; omega, .inr (.inl ⟨0, Nat.zero_le _, rfl, rfl, rfl⟩)⟩, ?_, Int.le_refl _⟩
      show 90 - (0 : Int).toNat < 100
      decide
    · rw [if_neg hg]
      refine ⟨⟨rfl, rfl, by show k.Calls ≤ c + 1; omega, .inr (.inr (.inr (.inr (.inr ⟨rfl, rfl, h.start⟩))))⟩, ?_, Int.le_refl _⟩
      show (0 : Nat) < 100
      decide
  · subst a b e
    unfold stepJ
    rw [if_neg (by dsimp only; decide), if_pos rfl]
    dsimp only
    by_cases hl : (n : Int) = (q.Cells.length : Int)
    · rw [if_pos hl]
      obtain rfl : n = q.Cells.length := by omega
      refine ⟨⟨rfl, rfl, e3, .inr (.inr (.inl ⟨rfl, rfl, rfl⟩))⟩, ?_, by show c ≤ c + 1; omega⟩
      show 70 < 90 - ((q.Cells.length : Int)).toNat
      omega
    · rw [if_neg hl]
      have hc := h.cellStep c k.Refuse (n := n) (by omega)
      unfold cellJ
      dsimp only
      rw [Int.toNat_natCast, hc]
      refine ⟨⟨rfl, rfl, e3, .inr (.inl ⟨n + 1, by omega, rfl, by show (n : Int) + 1 = ((n + 1 : Nat) : Int); omega, rfl⟩)⟩, ?_, by show c ≤ c + 1; omega⟩
      show 90 - ((n : Int) + 1).toNat < 90 - ((n : Int)).toNat
      omega
  · subst a b e
    have hp := h.mapOn c k.Refuse
    unfold stepJ
    rw [if_neg (by dsimp only; decide), if_neg (by dsimp only; decide), if_pos rfl]
    dsimp only
    rw [hp]
    by_cases hg : c ∉ k.Refuse
    · rw [if_pos hg]
      refine ⟨⟨rfl, rfl, by show k.Calls ≤ c + 1; omega, .inr (.inr (.inr (.inr (.inl ⟨rfl, rfl, rfl⟩))))⟩, ?_, Int.le_refl _⟩
      show (0 : Nat) < 70
      decide
    · rw [if_neg hg]
      refine ⟨⟨rfl, rfl, by show k.Calls ≤ c + 1; omega, .inr (.inr (.inr (.inl ⟨_, Nat.le_refl _, rfl, rfl, rfl⟩)))⟩, ?_, Int.le_refl _⟩
      have h1 := rest_le ⟨midM k.Machine q M f g rf rg 1 q.Cells.length, c + 1, k.Refuse⟩
      show 1 + ((q.Cells.length : Int)).toNat + rest ⟨midM k.Machine q M f g rf rg 1 q.Cells.length, c + 1, k.Refuse⟩ < 70
      dsimp only at h1
      omega
  · subst a b e
    unfold stepJ
    rw [if_neg (by dsimp only; decide), if_neg (by dsimp only; decide), if_neg (by dsimp only; decide), if_pos rfl]
    dsimp only
    by_cases hz : 0 < (n : Int)
    · rw [if_pos hz]
      obtain ⟨n, rfl⟩ : ∃ n', n = n' + 1 := ⟨n - 1, by omega⟩
      have hc := h.storeStep (n := n) (by omega)
      unfold cellJ
      dsimp only
      rw [show (((n + 1 : Nat) : Int) - 1).toNat = n by omega, hc]
      refine ⟨⟨rfl, rfl, e3, .inr (.inr (.inr (.inl ⟨n, by omega, rfl, by show ((n + 1 : Nat) : Int) - 1 = (n : Int); omega, rfl⟩)))⟩, ?_, by show c ≤ c + 1; omega⟩
      show 1 + (((n + 1 : Nat) : Int) - 1).toNat + rest ⟨_, c, k.Refuse⟩ < 1 + (((n + 1 : Nat) : Int)).toNat + rest ⟨_, c, k.Refuse⟩
      unfold rest
      dsimp only
      omega
    · rw [if_neg hz]
      obtain rfl : n = 0 := by omega
      have hp := h.protect c k.Refuse (md := 1) (md' := 2) (.inl rfl) (.inr rfl) 0
      rw [hp]
      by_cases hg : c ∉ k.Refuse
      · rw [if_pos hg]
        refine ⟨⟨rfl, rfl, by show k.Calls ≤ c + 1; omega, .inr (.inr (.inr (.inr (.inr ⟨rfl, rfl, h.start⟩))))⟩, ?_, Int.le_refl _⟩
        show (0 : Nat) < 1 + (((0 : Nat) : Int)).toNat + rest ⟨_, c, k.Refuse⟩
        omega
      · rw [if_neg hg]
        refine ⟨⟨rfl, rfl, by show k.Calls ≤ c + 1; omega, .inr (.inr (.inr (.inl ⟨0, Nat.zero_le _, rfl, rfl, rfl⟩)))⟩, ?_, Int.le_refl _⟩
        have := rest_call (k := ⟨midM k.Machine q M f g rf rg 1 0, c, k.Refuse⟩) hg (midM k.Machine q M f g rf rg 1 0)
        show 1 + (((0 : Nat) : Int)).toNat + rest ⟨_, c + 1, k.Refuse⟩ < 1 + (((0 : Nat) : Int)).toNat + rest ⟨_, c, k.Refuse⟩
        dsimp only at this
        omega
  · exact absurd (.inl a) ho
  · exact absurd (.inr a) ho
/-- a run from the start: where it stands behind n steps -/
theorem run_at (h : Pr k p K M f g rf rg) : ∀ n, At k p M f g rf rg (runJ n (k, ⟨p, 0, 0⟩)) ∧ (runJ n (k, ⟨p, 0, 0⟩)).1.Calls + (left (runJ n (k, ⟨p, 0, 0⟩)) : Int) ≤ k.Calls + 100 ∧ (overJ (runJ n (k, ⟨p, 0, 0⟩)).2 ∨ left (runJ n (k, ⟨p, 0, 0⟩)) + n ≤ 100)
  | 0 => ⟨⟨rfl, rfl, Int.le_refl _, .inl ⟨rfl, rfl, rfl⟩⟩, by show k.Calls + ((100 : Nat) : Int) ≤ _; omega, .inr (Nat.le_refl _)⟩
  | n + 1 => by
    obtain ⟨h1, h2, h3⟩ := run_at h n
    have hcalls := h.calls
    rw [runJ_succ]
    generalize runJ n (k, ⟨p, 0, 0⟩) = s at *
    by_cases ho : overJ s.2
    · rw [if_neg (fun hh => hh.1 ho)]
      exact ⟨h1, h2, .inl ho⟩
    · have hm := h1.may h (by omega) ho
      rw [if_pos ⟨ho, hm⟩]
      obtain ⟨a1, a2, a3⟩ := h1.step h ho
      refine ⟨a1, by omega, ?_⟩
      rcases h3 with h3 | h3
      · exact absurd h3 ho
      · exact .inr (by omega)
theorem run_over (h : Pr k p K M f g rf rg) {n : Nat} (hn : 101 ≤ n) : overJ (runJ n (k, ⟨p, 0, 0⟩)).2 := by
  obtain ⟨h1, h2, h3⟩ := run_at h n
  rcases h3 with h3 | h3
  · exact h3
  · omega
end
end Tr
end Go.Proofs.YtlkkiopjknbomaaGreatDoor
namespace Go.Proofs.YtlkkiopjknbomaaGreatDoor
open Go.RowKit
set_option linter.unusedVariables false
set_option linter.unusedSimpArgs false
namespace Tr
theorem load_eq {m : GMachine} (hm : okM m) {P : Nat} {e : GEntry} (he : pPageEntry m.Table (P : Int) = e) (h0 : e.Mode ≠ 0) {i : Nat} (hi : i < 16) : pLoad m (16 * (P : Int) + (i : Int)) = (cellOf m e.Frame (i : Int), 0) := by
  have hE := entry_at m P i hi
  rw [he] at hE
  unfold pLoad
  rw [if_pos ⟨hm, by rw [hE]; exact h0⟩, hE]
theorem cell_row {m : GMachine} {f i : Nat} {r : List Int} (h : m.Frames.Cells[f]? = some r) : cellOf m (f : Int) (i : Int) = r.getD i 0 := by
  unfold cellOf
  rw [Int.toNat_natCast, Int.toNat_natCast, getD_row h]
/-- cell i is one of the plan's -/
def inP (p : GPlan) (i : Nat) : Prop := ∃ n, n < p.Cells.length ∧ p.Cells.getD n 0 = (i : Int)
section
variable {k : GKernel} {p : GPlan} {K M f g : Nat} {rf rg : List Int}
theorem Pr.mg (h : Pr k p K M f g rf rg) {n i : Nat} (hn : n ≤ p.Cells.length) (hi : i < 16) (hp : ¬ inP p i) : (mgTo rf rg p.Cells n).getD i 0 = rf.getD i 0 := by
  rw [mgTo_at h.okRf.1 h.plan.2.2.2 hi n hn, if_neg]
  rintro ⟨j, h1, h2⟩
  exact hp ⟨j, by omega, h2⟩
theorem Pr.mgAll (h : Pr k p K M f g rf rg) {i : Nat} (hi : i < 16) (hp : inP p i) : (mgTo rf rg p.Cells p.Cells.length).getD i 0 = rg.getD i 0 := by
  rw [mgTo_at h.okRf.1 h.plan.2.2.2 hi _ (Nat.le_refl _)]
  exact if_pos hp
theorem Pr.endF (h : Pr k p K M f g rf rg) : (Tr.endM k.Machine p M f g rf rg).Frames.Cells[f]? = some (mgTo rf rg p.Cells p.Cells.length) := by
  show ((k.Machine.Frames.Cells.set f _).set g _)[f]? = _
  rw [List.getElem?_set_ne (Ne.symm h.ne), List.getElem?_set_self h.fl]
theorem Pr.endK (h : Pr k p K M f g rf rg) : pPageEntry (Tr.endM k.Machine p M f g rf rg).Table p.Keep = ⟨2, (f : Int)⟩ := by
  rw [h.eK]
  refine entry_of ?_
  show (k.Machine.Table.Entries.set M _)[K]? = _
  rw [List.getElem?_set_ne (Ne.symm h.neKM)]
  exact h.keep
theorem Pr.endMv (h : Pr k p K M f g rf rg) : pPageEntry (Tr.endM k.Machine p M f g rf rg).Table p.Move = ⟨2, (f : Int)⟩ := by
  rw [h.eM]
  refine entry_of ?_
  show (k.Machine.Table.Entries.set M _)[M]? = _
  rw [List.getElem?_set_self (List.getElem?_eq_some_iff.1 h.move).1]
/-- the cells in use are read as0 before, at every step -/
theorem At.visible (h : Pr k p K M f g rf rg) {s : GKernel × GJob} (ha : At k p M f g rf rg s) {i : Nat} (hi : i < 16) :
    (inP p i → pLoad s.1.Machine (16 * p.Move + (i : Int)) = pLoad k.Machine (16 * p.Move + (i : Int))) ∧ (¬ inP p i → pLoad s.1.Machine (16 * p.Keep + (i : Int)) = pLoad k.Machine (16 * p.Keep + (i : Int))) := by
  have hok := ha.okMach h
  have kM := load_eq h.ok.1 (P := M) (e := ⟨2, (g : Int)⟩) (by rw [← h.eM]; exact h.modeM) (by dsimp only; decide) hi
  have kK := load_eq h.ok.1 (P := K) (e := ⟨2, (f : Int)⟩) (by rw [← h.eK]; exact h.modeK) (by dsimp only; decide) hi
  rw [← h.eM, cell_row h.rowG] at kM
  rw [← h.eK, cell_row h.rowF] at kK
  rw [kM, kK]
  have key : ∀ md n, md = 1 ∨ md = 2 → n ≤ p.Cells.length → s.1.Machine = midM k.Machine p M f g rf rg md n → (inP p i → pLoad s.1.Machine (16 * p.Move + (i : Int)) = (rg.getD i 0, 0)) ∧ (¬ inP p i → pLoad s.1.Machine (16 * p.Keep + (i : Int)) = (rf.getD i 0, 0)) := fun md n hmd hn e => by
    rw [e] at hok ⊢
    have xM := load_eq hok (P := M) (e := ⟨md, (g : Int)⟩) (by rw [← h.eM]; exact h.midMv md n) (by show md ≠ 0; omega) hi
    have xK := load_eq hok (P := K) (e := ⟨2, (f : Int)⟩) (by rw [← h.eK]; exact h.midK md n) (by dsimp only; decide) hi
    rw [← h.eM, cell_row (h.midG md n)] at xM
    rw [← h.eK, cell_row (h.midF md n)] at xK
    exact ⟨fun _ => xM, fun hp => by rw [xK, h.mg hn hi hp]⟩
  obtain ⟨_, _, _, hs⟩ := ha
  rcases hs with ⟨_, _, e⟩ | ⟨n, hn, _, _, e⟩ | ⟨_, _, e⟩ | ⟨n, hn, _, _, e⟩ | ⟨_, _, e⟩ | ⟨_, _, e⟩
  · exact key 2 0 (.inr rfl) (Nat.zero_le _) (by rw [h.start]; exact e)
  · exact key 1 n (.inl rfl) hn e
  · exact key 1 _ (.inl rfl) (Nat.le_refl _) e
  · exact key 1 n (.inl rfl) hn e
  · rw [e] at hok ⊢
    have xM := load_eq hok (P := M) (e := ⟨2, (f : Int)⟩) (by rw [← h.eM]; exact h.endMv) (by dsimp only; decide) hi
    have xK := load_eq hok (P := K) (e := ⟨2, (f : Int)⟩) (by rw [← h.eK]; exact h.endK) (by dsimp only; decide) hi
    rw [← h.eM, cell_row h.endF] at xM
    rw [← h.eK, cell_row h.endF] at xK
    exact ⟨fun hp => by rw [xM, h.mgAll hi hp], fun hp => by rw [xK, h.mg (Nat.le_refl _) hi hp]⟩
  · exact key 2 0 (.inr rfl) (Nat.zero_le _) (by rw [h.start]; exact e)
theorem text_eq {m : GMachine} (hm : okM m) {page : Int} {e : GEntry} (he : pPageEntry m.Table page = e) (h0 : e.Mode ≠ 0) {f : Nat} (hf : e.Frame = (f : Int)) {r : List Int} (hr : m.Frames.Cells[f]? = some r) : pPageText m page = r := by
  unfold pPageText
  rw [he, if_pos ⟨hm, h0⟩, hf, Int.toNat_natCast, getD_row hr]
/-- what a whole run leaves: everything as0 it was, or both pages on one frame -/
theorem run_end (h : Pr k p K M f g rf rg) {s : GKernel × GJob} (hs : runJ 200 (k, ⟨p, 0, 0⟩) = s) : okK s.1 ∧ okJ s.2 ∧
    ((s.2.Phase = 5 ∧ s.1.Machine = k.Machine) ∨
     (s.2.Phase = 4 ∧ pPageText s.1.Machine p.Keep = pMergedText (pPageText k.Machine p.Keep) (pPageText k.Machine p.Move) p ∧ pPageText s.1.Machine p.Move = pPageText s.1.Machine p.Keep ∧ pUsedFrames s.1.Machine.Frames = pUsedFrames k.Machine.Frames - 1)) := by
  obtain ⟨h1, h2, h3⟩ := run_at h 200
  have h4 := run_over h (n := 200) (by decide)
  have hcalls := h.calls
  rw [hs] at h1 h2 h3 h4
  have hK := h1.okKer h (by omega)
  refine ⟨hK, h1.okJob h, ?_⟩
  have hok := h1.okMach h
  obtain ⟨_, _, _, hst⟩ := h1
  unfold overJ at h4
  rcases hst with ⟨a, _⟩ | ⟨n, hn, a, _⟩ | ⟨a, _⟩ | ⟨n, hn, a, _⟩ | ⟨a, _, e⟩ | ⟨a, _, e⟩
  · omega
  · omega
  · omega
  · omega
  · right
    rw [e] at hok ⊢
    have t1 := text_eq hok h.endK (by dsimp only; decide) rfl h.endF
    have t2 := text_eq hok h.endMv (by dsimp only; decide) rfl h.endF
    have t3 := text_eq h.ok.1 h.modeK (by dsimp only; decide) rfl h.rowF
    have t4 := text_eq h.ok.1 h.modeM (by dsimp only; decide) rfl h.rowG
    refine ⟨a, ?_, by rw [t1, t2], ?_⟩
    · rw [t1, t3, t4]
      exact (if_pos ⟨h.plan, h.okRf.1, h.okRg.1⟩).symm
    · unfold pUsedFrames
      rw [if_pos hok.1, if_pos h.okF]
      show (((k.Machine.Frames.Used.set g false).countP (fun u => u) : Nat) : Int) = _
      have hu := h.usedG
      have hgl : g < k.Machine.Frames.Used.length := (List.getElem?_eq_some_iff.1 hu).1
      have hc : ∀ (l : List Bool) (i : Nat), l[i]? = some true → (l.set i false).countP (fun u => u) + 1 = l.countP (fun u => u) := by
        intro l
        induction l with
        | nil => intro i hi; cases hi
        | cons x l ih =>
          intro i hi
          cases i with
          | zero =>
            obtain rfl : x = true := Option.some.inj hi
            simp
          | succ i =>
            have := ih i hi
            simp only [List.set_cons_succ, List.countP_cons]
            omega
      have := hc _ _ hu
      omega
  · left
    exact ⟨a, e⟩
end
end Tr
end Go.Proofs.YtlkkiopjknbomaaGreatDoor

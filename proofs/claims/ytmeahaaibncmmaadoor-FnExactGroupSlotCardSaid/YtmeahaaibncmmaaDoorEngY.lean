/- A symbolic run: a region that draws its order, operation by operation. No program. -/
import Derived.Test.YtmeahaaibncmmaaDoorEngX
namespace Go.Proofs.YtmeahaaibncmmaaDoor
open Go.RowKit
set_option linter.unusedVariables false
set_option linter.unusedSimpArgs false
namespace Eng
open Tr
def revApp : List Rc → List Rc → List Rc
  | [], rs => rs
  | r :: acc, rs => revApp acc (r :: rs)
/-- the operations l are told one by one; acc: those told, the last first; K: what is asked of all -/
def ED (K : List Rc → Prop) (tt : TT) (ok : Ok) (all : List Oper) (n : Nat) (acc : List Rc) (l : List Oper) (inps : List Inp) (t : TL) (m : ML) (u : List Nat) : Prop := ∃ rs, evalD tt ok all n l inps t m u = some rs ∧ K (revApp acc rs)
section
variable {K : List Rc → Prop} {tt : TT} {ok : Ok} {all l : List Oper} {n : Nat} {acc : List Rc} {t : TL} {m : ML} {u : List Nat}
theorem ed_hide {inps : List Inp} (h : ∀ K', K' = K → ED K' tt ok all n acc l inps t m u) : ED K tt ok all n acc l inps t m u := h K rfl
theorem ed_nil (h : K (revApp acc [])) : ED K tt ok all n acc [] [] t m u := ⟨[], rfl, h⟩
theorem ed_cons {o : Oper} {inps inps' : List Inp} {g : Option Bool} {i : Inp} {v0 v : Option TV} {wr0 wr ms : ML} {ts : TL} {al0 al N us sl : List Nat} {ob0 ob ob1 : List Prop} (hsl : app (slotsOf o.op) (guardS all o.guard) = sl) (hts : selT t sl = ts) (h1 : guardOf all ts o.guard = some g) (h2 : takeI (needs t g o.op) inps = some (i, inps'))
    (h3 : evalOp tt ok t m (slotOf o.dst) g i o.op = some ⟨v0, wr0, al0, N, ob0⟩) (hms : selM m N = ms) (h4 : evalOp tt ok ts ms (slotOf o.dst) g i o.op = some ⟨v, wr, al, us, ob⟩)
    (h5 : guardOk g v wr al = some ob1) (h6 : disj al u = true) (h7 : dstOk n o.dst v = true) (k : ED K tt ok all n (⟨o, sl, N, g, i, ⟨v, wr, al, us, ob⟩, ob1⟩ :: acc) l inps' (putT o.dst v t) (app wr m) (app al u)) : ED K tt ok all n acc (o :: l) inps t m u := by
  obtain ⟨rs, hr, hk⟩ := k
  subst hsl hts hms
  refine ⟨_ :: rs, ?_, hk⟩
  unfold evalD
  simp only [h1, h2, h3, h4, h5, h6, h7, hr]
theorem ed_call {o : Oper} {inps inps' : List Inp} {g : Option Bool} {c : CFD} {f : Nat} {cl : Call} {vs vs' : List SV} {o1 o1' : List Prop} {π π' : List (Nat × Nat)} {v0 v : Option TV} {wr0 wr ms : ML} {ts : TL} {al0 al N us sl : List Nat} {ob0 ob ob1 : List Prop} (hsl : app (slotsOf o.op) (guardS all o.guard) = sl) (hts : selT t sl = ts) (h1 : guardOf all ts o.guard = some g) (h2 : takeI (needs t g o.op) inps = some (.call c, inps')) (ho : o.op = .call cl) (hc : cl.callee = .value (.func f)) (hf : Nat.beq c.f f = true)
    (hv : opdsOf t g cl.args.toList = some (vs, o1)) (hπ : mpM c.pre m (mpSs c.args vs []) = π) (hG : evCallG ok o1 vs m (slotOf o.dst) g c π = some ⟨v0, wr0, al0, N, ob0⟩) (hms : selM m N = ms)
    (hv' : opdsOf ts g cl.args.toList = some (vs', o1')) (hπ' : mpM c.pre ms (mpSs c.args vs' []) = π') (hG' : evCallG ok o1' vs' ms (slotOf o.dst) g c π' = some ⟨v, wr, al, us, ob⟩)
    (h5 : guardOk g v wr al = some ob1) (h6 : disj al u = true) (h7 : dstOk n o.dst v = true) (k : ED K tt ok all n (⟨o, sl, N, g, .call c, ⟨v, wr, al, us, ob⟩, ob1⟩ :: acc) l inps' (putT o.dst v t) (app wr m) (app al u)) : ED K tt ok all n acc (o :: l) inps t m u := by
  refine ed_cons hsl hts h1 h2 (v0 := v0) (wr0 := wr0) (al0 := al0) (ob0 := ob0) ?_ hms ?_ h5 h6 h7 k
  · rw [ho]
    simp only [evalOp, hc, evCall, hf, hv, hπ]
    exact hG
  · rw [ho]
    simp only [evalOp, hc, evCall, hf, hv', hπ']
    exact hG'
theorem ed_sure {o : Oper} {inps inps' : List Inp} {g : Option Bool} {c : CFD} {f : Nat} {cl : Call} {vs vs' : List SV} {o1 o1' : List Prop} {π π' : List (Nat × Nat)} {v0 v : Option TV} {wr0 wr ms : ML} {ts : TL} {al0 al N us sl : List Nat} {ob0 ob ob1 : List Prop} (hsl : app (slotsOf o.op) (guardS all o.guard) = sl) (hts : selT t sl = ts) (h1 : guardOf all ts o.guard = some g) (h2 : takeI (needs t g o.op) inps = some (.sure c, inps')) (ho : o.op = .call cl) (hc : cl.callee = .value (.func f)) (hf : Nat.beq c.f f = true)
    (hv : opdsOf t g cl.args.toList = some (vs, o1)) (hπ : mpM c.pre m (mpSs c.args vs []) = π) (hG : evCallG ok o1 vs m (slotOf o.dst) none c π = some ⟨v0, wr0, al0, N, ob0⟩) (hms : selM m N = ms)
    (hv' : opdsOf ts g cl.args.toList = some (vs', o1')) (hπ' : mpM c.pre ms (mpSs c.args vs' []) = π') (hG' : evCallG ok o1' vs' ms (slotOf o.dst) none c π' = some ⟨v, wr, al, us, ob⟩)
    (h5 : guardOk g v wr al = some ob1) (h6 : disj al u = true) (h7 : dstOk n o.dst v = true) (k : ED K tt ok all n (⟨o, sl, N, g, .sure c, ⟨v, wr, al, us, ob⟩, ob1⟩ :: acc) l inps' (putT o.dst v t) (app wr m) (app al u)) : ED K tt ok all n acc (o :: l) inps t m u := by
  refine ed_cons hsl hts h1 h2 (v0 := v0) (wr0 := wr0) (al0 := al0) (ob0 := ob0) ?_ hms ?_ h5 h6 h7 k
  · rw [ho]
    simp only [evalOp, hc, evCall, hf, hv, hπ]
    exact hG
  · rw [ho]
    simp only [evalOp, hc, evCall, hf, hv', hπ']
    exact hG'
end
section
variable {P : Program} {F : Fr} {tt : TT} {R : St → Prop} {k : List It}
theorem ar_drawS (htt : TTok P tt) (hmix : P.follows .mixedOrders = true) {id : Nat} {ops : List Oper} (inps : List Inp) {t : TL} {m : ML} {u : List Nat}
    (h : ED (fun rs => ∃ prs, prsOf ops [] = some prs ∧ ckAll [] rs prs = true ∧ AR P F R k ⟨endT rs t, endM rs m, endU rs u⟩ ∧ All (obD rs)) tt (okX P F.X) ops F.n [] ops inps t m u) : AR P F R (.code (.region id ⟨ops⟩ true) :: k) ⟨t, m, u⟩ := by
  obtain ⟨rs, h1, prs, h2, h3, h4, h5⟩ := h
  exact ar_draw htt hmix h1 h2 h3 rfl rfl rfl rfl h5 h4
end
end Eng
end Go.Proofs.YtmeahaaibncmmaaDoor

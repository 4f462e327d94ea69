/- A symbolic run: a region, operation by operation. No program. -/
import Derived.Test.YtcdmijnlpapjaaaEngV
namespace Go.Proofs.Ytcdmijnlpapjaaa
open Go.RowKit
set_option linter.unusedVariables false
set_option linter.unusedSimpArgs false
namespace Eng
open Tr
/-- the operations run to their end, owe nothing, and K goes on -/
def EvK (tt : TT) (ok : Ok) (all : List Oper) (n : Nat) (l : List Oper) (inps : List Inp) (t : TL) (m : ML) (u : List Nat) (K : TL → ML → List Nat → Prop) : Prop :=
  ∃ t' m' u' ob, evalOps tt ok all n l inps t m u = some (t', m', u', ob) ∧ All ob ∧ K t' m' u'
section
variable {tt : TT} {ok : Ok} {all : List Oper} {n : Nat} {t : TL} {m : ML} {u : List Nat} {K : TL → ML → List Nat → Prop}
theorem evk_nil (h : K t m u) : EvK tt ok all n [] [] t m u K := ⟨t, m, u, [], rfl, trivial, h⟩
theorem evk_cons {o : Oper} {l : List Oper} {inps inps' : List Inp} {g : Option Bool} {i : Inp} {v : Option TV} {wr : ML} {al us : List Nat} {ob ob1 : List Prop} (h1 : guardOf all t o.guard = some g) (h2 : takeI (needs t g o.op) inps = some (i, inps')) (h3 : evalOp tt ok t m (slotOf o.dst) g i o.op = some ⟨v, wr, al, us, ob⟩)
    (h4 : guardOk g v wr al = some ob1) (h5 : disj al u = true) (h6 : dstOk n o.dst v = true) (k3 : EvK tt ok all n l inps' (putT o.dst v t) (app wr m) (app al u) K) (k1 : All (app ob1 ob)) : EvK tt ok all n (o :: l) inps t m u K := by
  obtain ⟨t', m', u', ob2, e1, e2, e3⟩ := k3
  refine ⟨t', m', u', app ob1 (app ob ob2), ?_, ?_, e3⟩
  · unfold evalOps
    simp only [h1, h2, h3, h4, h5, h6, e1]
  · rw [All_app] at k1; rw [All_app, All_app]; exact ⟨k1.1, k1.2, e2⟩
theorem evk_call {o : Oper} {l : List Oper} {inps inps' : List Inp} {g : Option Bool} {c : CFD} {f : Nat} {cl : Call} {vs : List SV} {o1 : List Prop} {π : List (Nat × Nat)} {v : Option TV} {wr : ML} {al us : List Nat} {ob ob1 : List Prop} (h1 : guardOf all t o.guard = some g) (h2 : takeI (needs t g o.op) inps = some (.call c, inps')) (ho : o.op = .call cl) (hc : cl.callee = .value (.func f)) (hf : Nat.beq c.f f = true)
    (hv : opdsOf t g cl.args.toList = some (vs, o1)) (hπ : mpM c.pre m (mpSs c.args vs []) = π) (hG : evCallG ok o1 vs m (slotOf o.dst) g c π = some ⟨v, wr, al, us, ob⟩)
    (h4 : guardOk g v wr al = some ob1) (h5 : disj al u = true) (h6 : dstOk n o.dst v = true) (k3 : EvK tt ok all n l inps' (putT o.dst v t) (app wr m) (app al u) K) (k1 : All (app ob1 ob)) : EvK tt ok all n (o :: l) inps t m u K := by
  refine evk_cons (us := us) h1 h2 ?_ h4 h5 h6 k3 k1
  rw [ho]
  simp only [evalOp, hc, evCall, hf, hv, hπ]
  exact hG
theorem evk_sure {o : Oper} {l : List Oper} {inps inps' : List Inp} {g : Option Bool} {c : CFD} {f : Nat} {cl : Call} {vs : List SV} {o1 : List Prop} {π : List (Nat × Nat)} {v : Option TV} {wr : ML} {al us : List Nat} {ob ob1 : List Prop} (h1 : guardOf all t o.guard = some g) (h2 : takeI (needs t g o.op) inps = some (.sure c, inps')) (ho : o.op = .call cl) (hc : cl.callee = .value (.func f)) (hf : Nat.beq c.f f = true)
    (hv : opdsOf t g cl.args.toList = some (vs, o1)) (hπ : mpM c.pre m (mpSs c.args vs []) = π) (hG : evCallG ok o1 vs m (slotOf o.dst) none c π = some ⟨v, wr, al, us, ob⟩)
    (h4 : guardOk g v wr al = some ob1) (h5 : disj al u = true) (h6 : dstOk n o.dst v = true) (k3 : EvK tt ok all n l inps' (putT o.dst v t) (app wr m) (app al u) K) (k1 : All (app ob1 ob)) : EvK tt ok all n (o :: l) inps t m u K := by
  refine evk_cons (us := us) h1 h2 ?_ h4 h5 h6 k3 k1
  rw [ho]
  simp only [evalOp, hc, evCall, hf, hv, hπ]
  exact hG
end
section
variable {P : Program} {F : Fr} {tt : TT}
theorem ar_steps {R : St → Prop} {k : List It} (htt : TTok P tt) {id : Nat} {ops : List Oper} (inps : List Inp) {t : TL} {m : ML} {u : List Nat} (h : EvK tt (okX P F.X) ops F.n ops inps t m u (fun t' m' u' => AR P F R k ⟨t', m', u'⟩)) : AR P F R (.code (.region id ⟨ops⟩ false) :: k) ⟨t, m, u⟩ := by
  obtain ⟨t', m', u', ob, e1, e2, e3⟩ := h
  exact ar_region htt e1 e2 e3
end
end Eng
end Go.Proofs.Ytcdmijnlpapjaaa

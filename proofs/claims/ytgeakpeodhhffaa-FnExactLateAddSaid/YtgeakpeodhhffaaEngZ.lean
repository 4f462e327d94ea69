/- A symbolic run (EngZ). No program. -/
import Derived.Test.YtgeakpeodhhffaaEngV
namespace Go.Proofs.Ytgeakpeodhhffaa
open Go.RowKit
set_option linter.unusedVariables false
set_option linter.unusedSimpArgs false
namespace Eng
open Tr
/-- the operations run to their end, owe nothing, and K goes on -/
def EvK (tt : TT) (ok : Ok) (all : List Oper) (n : Nat) (l : List Oper) (inps : List Inp) (t : TL) (m : ML) (u : List Nat) (K : TL → ML → List Nat → Prop) : Prop :=
  ∃ t' m' u' ob, evalOps tt ok all n l inps t m u = some (t', m', u', ob) ∧ All ob ∧ K t' m' u'
section
variable {tt : TT} {ok : Ok} {all : List Oper} {n : Nat} {t : TL} {m : ML} {u : List Nat} {K : TL → ML → List Nat → Prop}
theorem evk_nil (h : K t m u) : EvK tt ok all n [] [] t m u K := ⟨t, m, u, [], rfl, trivial, h⟩
theorem evk_cons {o : Oper} {l : List Oper} {inps inps' : List Inp} {g : Option Bool} {i : Inp} {v : Option TV} {wr : ML} {al us : List Nat} {ob ob1 : List Prop} (h1 : guardOf all t o.guard = some g) (h2 : takeI (needs t g o.op) inps = some (i, inps')) (h3 : evalOp tt ok t m (slotOf o.dst) g i o.op = some ⟨v, wr, al, us, ob⟩)
    (h4 : guardOk g v wr al = some ob1) (h5 : disj al u = true) (h6 : dstOk n o.dst v = true) (k3 : EvK tt ok all n l inps' (putT o.dst v t) (app wr m) (app al u) K) (k1 : All (app ob1 ob)) : EvK tt ok all n (o :: l) inps t m u K := by
  obtain ⟨t', m', u', ob2, e1, e2, e3⟩ := k3
  refine ⟨t', m', u', app ob1 (app ob ob2), ?_, ?_, e3⟩
  · unfold evalOps
    simp only [h1, h2, h3, h4, h5, h6, e1]
  · rw [All_app] at k1; rw [All_app, All_app]; exact ⟨k1.1, k1.2, e2⟩
theorem evk_cons3 {o : Oper} {l : List Oper} {inps inps' : List Inp} {g : Option Bool} {i : Inp} {v : Option TV} {wr : ML} {al us : List Nat} {ob ob1 : List Prop}
    (k3 : EvK tt ok all n l inps' (putT o.dst v t) (app wr m) (app al u) K) (k1 : All (app ob1 ob))
    (h1 : guardOf all t o.guard = some g := by exact rfl) (h2 : takeI (needs t g o.op) inps = some (i, inps') := by exact rfl) (h3 : evalOp tt ok t m (slotOf o.dst) g i o.op = some ⟨v, wr, al, us, ob⟩ := by exact rfl) (h4 : guardOk g v wr al = some ob1 := by exact rfl) (h5 : disj al u = true := by exact rfl) (h6 : dstOk n o.dst v = true := by exact rfl) : EvK tt ok all n (o :: l) inps t m u K := evk_cons h1 h2 h3 h4 h5 h6 k3 k1
theorem evk_call {o : Oper} {l : List Oper} {inps inps' : List Inp} {g : Option Bool} {c : CFD} {f : Nat} {cl : Call} {vs : List SV} {o1 : List Prop} {π : List (Nat × Nat)} {v : Option TV} {wr : ML} {al us : List Nat} {ob ob1 : List Prop} (h1 : guardOf all t o.guard = some g) (h2 : takeI (needs t g o.op) inps = some (.call c, inps')) (ho : o.op = .call cl) (hc : cl.callee = .value (.func f)) (hf : Nat.beq c.f f = true)
    (hv : opdsOf t g cl.args.toList = some (vs, o1)) (hπ : mpM c.pre m (mpSs c.args vs []) = π) (hG : evCallG ok o1 vs m (slotOf o.dst) g c π = some ⟨v, wr, al, us, ob⟩)
    (h4 : guardOk g v wr al = some ob1) (h5 : disj al u = true) (h6 : dstOk n o.dst v = true) (k3 : EvK tt ok all n l inps' (putT o.dst v t) (app wr m) (app al u) K) (k1 : All (app ob1 ob)) : EvK tt ok all n (o :: l) inps t m u K := by
  refine evk_cons (us := us) h1 h2 ?_ h4 h5 h6 k3 k1
  rw [ho]
  simp only [evalOp, hc, evCall, hf, hv, hπ]
  exact hG
theorem evk_call3 {o : Oper} {l : List Oper} {inps inps' : List Inp} {g : Option Bool} {c : CFD} {f : Nat} {cl : Call} {vs : List SV} {o1 : List Prop} {π : List (Nat × Nat)} {v : Option TV} {wr : ML} {al us : List Nat} {ob ob1 : List Prop}
    (k3 : EvK tt ok all n l inps' (putT o.dst v t) (app wr m) (app al u) K) (k1 : All (app ob1 ob))
    (h1 : guardOf all t o.guard = some g := by exact rfl) (h2 : takeI (needs t g o.op) inps = some (.call c, inps') := by exact rfl) (ho : o.op = .call cl := by exact rfl) (hc : cl.callee = .value (.func f) := by exact rfl) (hf : Nat.beq c.f f = true := by exact rfl) (hv : opdsOf t g cl.args.toList = some (vs, o1) := by exact rfl) (hπ : mpM c.pre m (mpSs c.args vs []) = π := by dsimp only [mpCap, Nat.reduceAdd, Nat.reduceMul, Nat.zero_add, List.map, mpM, mpTL, mpO, mpB, lkO, mpT, mpSs, mpS, mpCs, mpC, mpN, lk, idN, keys, resT, ro] <;> exact rfl) (hG : evCallG ok o1 vs m (slotOf o.dst) g c π = some ⟨v, wr, al, us, ob⟩ := by exact rfl) (h4 : guardOk g v wr al = some ob1 := by exact rfl) (h5 : disj al u = true := by exact rfl) (h6 : dstOk n o.dst v = true := by exact rfl) : EvK tt ok all n (o :: l) inps t m u K := evk_call h1 h2 ho hc hf hv hπ hG h4 h5 h6 k3 k1
theorem evk_sure {o : Oper} {l : List Oper} {inps inps' : List Inp} {g : Option Bool} {c : CFD} {f : Nat} {cl : Call} {vs : List SV} {o1 : List Prop} {π : List (Nat × Nat)} {v : Option TV} {wr : ML} {al us : List Nat} {ob ob1 : List Prop} (h1 : guardOf all t o.guard = some g) (h2 : takeI (needs t g o.op) inps = some (.sure c, inps')) (ho : o.op = .call cl) (hc : cl.callee = .value (.func f)) (hf : Nat.beq c.f f = true)
    (hv : opdsOf t g cl.args.toList = some (vs, o1)) (hπ : mpM c.pre m (mpSs c.args vs []) = π) (hG : evCallG ok o1 vs m (slotOf o.dst) none c π = some ⟨v, wr, al, us, ob⟩)
    (h4 : guardOk g v wr al = some ob1) (h5 : disj al u = true) (h6 : dstOk n o.dst v = true) (k3 : EvK tt ok all n l inps' (putT o.dst v t) (app wr m) (app al u) K) (k1 : All (app ob1 ob)) : EvK tt ok all n (o :: l) inps t m u K := by
  refine evk_cons (us := us) h1 h2 ?_ h4 h5 h6 k3 k1
  rw [ho]
  simp only [evalOp, hc, evCall, hf, hv, hπ]
  exact hG
theorem evk_sure3 {o : Oper} {l : List Oper} {inps inps' : List Inp} {g : Option Bool} {c : CFD} {f : Nat} {cl : Call} {vs : List SV} {o1 : List Prop} {π : List (Nat × Nat)} {v : Option TV} {wr : ML} {al us : List Nat} {ob ob1 : List Prop}
    (k3 : EvK tt ok all n l inps' (putT o.dst v t) (app wr m) (app al u) K) (k1 : All (app ob1 ob))
    (h1 : guardOf all t o.guard = some g := by exact rfl) (h2 : takeI (needs t g o.op) inps = some (.sure c, inps') := by exact rfl) (ho : o.op = .call cl := by exact rfl) (hc : cl.callee = .value (.func f) := by exact rfl) (hf : Nat.beq c.f f = true := by exact rfl) (hv : opdsOf t g cl.args.toList = some (vs, o1) := by exact rfl) (hπ : mpM c.pre m (mpSs c.args vs []) = π := by dsimp only [mpCap, Nat.reduceAdd, Nat.reduceMul, Nat.zero_add, List.map, mpM, mpTL, mpO, mpB, lkO, mpT, mpSs, mpS, mpCs, mpC, mpN, lk, idN, keys, resT, ro] <;> exact rfl) (hG : evCallG ok o1 vs m (slotOf o.dst) none c π = some ⟨v, wr, al, us, ob⟩ := by exact rfl) (h4 : guardOk g v wr al = some ob1 := by exact rfl) (h5 : disj al u = true := by exact rfl) (h6 : dstOk n o.dst v = true := by exact rfl) : EvK tt ok all n (o :: l) inps t m u K := evk_sure h1 h2 ho hc hf hv hπ hG h4 h5 h6 k3 k1
end
section
variable {P : Program} {F : Fr} {tt : TT}
theorem ar_steps {R : St → Prop} {k : List It} (htt : TTok P tt) {id : Nat} {ops : List Oper} (inps : List Inp) {t : TL} {m : ML} {u : List Nat} (h : EvK tt (okX P F.X) ops F.n ops inps t m u (fun t' m' u' => AR P F R k ⟨t', m', u'⟩)) : AR P F R (.code (.region id ⟨ops⟩ false) :: k) ⟨t, m, u⟩ := by
  obtain ⟨t', m', u', ob, e1, e2, e3⟩ := h
  exact ar_region htt e1 e2 e3
end
end Eng
end Go.Proofs.Ytgeakpeodhhffaa
namespace Go.Proofs.Ytgeakpeodhhffaa
open Go.RowKit
set_option linter.unusedVariables false
set_option linter.unusedSimpArgs false
namespace Eng
open Tr
/-- the operations l, and what follows them -/
def AS (P : Program) (F : Fr) (Q : Exit → Act → World → Prop) (all l : List Oper) (inps : List Inp) (t : TL) (m : ML) (u : List Nat) : Prop :=
  ∀ a w, StRel F ⟨t, m, u⟩ a w → Co.wpListK P F.X.H F.X.Pt all.toArray Q l a w
section
variable {P : Program} {F : Fr} {tt : TT} {Q : Exit → Act → World → Prop} {all l : List Oper} {t : TL} {m : ML} {u : List Nat}
theorem as_nil {R : St → Prop} {k : List It} (h : AR P F R k ⟨t, m, u⟩) : AS P F (kont P F R k) all [] [] t m u := fun a w hS => h a w hS
theorem as_does {o : Oper} {inps' inps : List Inp} {g : Option Bool} {v : Option TV} {wr : ML} {al : List Nat} {ob1 : List Prop} (h1 : guardOf all t o.guard = some g) (h4 : guardOk g v wr al = some ob1) (h5 : disj al u = true) (h6 : dstOk F.n o.dst v = true) (k3 : AS P F Q all l inps' (putT o.dst v t) (app wr m) (app al u)) (k1 : All ob1)
    (hd : ∀ ρ a w, GT g → ARel F.X ρ F.n t a → MRel F.X ρ w m → WRel F.X w → (∀ r ∈ al, ρ r = none) → Does P F.X ρ w m al o a v wr) : AS P F Q all (o :: l) inps t m u := by
  intro a w hS
  obtain ⟨ρ, hE, hA, hM, hU, hW⟩ := hS
  have hfr : ∀ r ∈ al, ρ r = none := by
    intro r hr
    cases hq : ρ r with
    | none => rfl
    | some y => exact absurd (hU r y hq) (disj_sound h5 r hr)
  obtain ⟨hw1, hw2⟩ := guardOf_sound h1 hA
  have next : ∀ x w' ρ', (∀ tv, v = some tv → TRel F.X ρ' tv x) → Ext ρ ρ' → (∀ r y, ρ' r = some y → ρ r = some y ∨ r ∈ al) → MRel F.X ρ' w' (app wr m) → WRel F.X w' → Co.wpListK P F.X.H F.X.Pt all.toArray Q l (a.put o.dst x) w' := by
    intro x w' ρ' k1 k2 k3' k4 k5
    refine k3 _ _ ⟨ρ', fun q y hq => k2 q y (hE q y hq), (hA.ext k2).put' h6 k1, k4, fun r y hr => ?_, k5⟩
    show r ∈ app al u
    rw [app_eq, List.mem_append]
    rcases k3' r y hr with h | h
    · exact .inr (hU r y h)
    · exact .inl h
  unfold Co.wpListK
  cases hwt : Region.wanted o (yielded all.toArray a.tmps) with
  | true =>
    rw [if_pos rfl]
    exact hd ρ a w (hw1 hwt) hA hM hW hfr _ next
  | false =>
    rw [if_neg (by simp)]
    obtain rfl := hw2 hwt
    unfold guardOk at h4
    split at h4
    · rename_i h1; cases h1
    · rename_i b b' s' h1
      obtain rfl := Option.some.inj h4
      obtain ⟨hb', _⟩ := k1
      have hbf : b = false := (Option.some.inj h1).symm
      refine next undef w ρ (fun tv htv => ?_) (Ext.refl ρ) (fun _ _ h => .inl h) hM hW
      obtain rfl := Option.some.inj htv
      exact ⟨(fun h => by rw [hb', hbf] at h; cases h), fun _ => rfl⟩
    · rename_i b h1 _
      obtain rfl := Option.some.inj h4
      have h2 : b = true := k1.1
      have h3 : b = false := (Option.some.inj h1).symm
      rw [h2] at h3; cases h3
theorem as_cons (htt : TTok P tt) {o : Oper} {inps inps' : List Inp} {g : Option Bool} {i : Inp} {v : Option TV} {wr : ML} {al us : List Nat} {ob ob1 : List Prop} (h1 : guardOf all t o.guard = some g) (h2 : takeI (needs t g o.op) inps = some (i, inps')) (h3 : evalOp tt (okX P F.X) t m (slotOf o.dst) g i o.op = some ⟨v, wr, al, us, ob⟩)
    (h4 : guardOk g v wr al = some ob1) (h5 : disj al u = true) (h6 : dstOk F.n o.dst v = true) (k3 : AS P F Q all l inps' (putT o.dst v t) (app wr m) (app al u)) (k1 : All (app ob1 ob)) : AS P F Q all (o :: l) inps t m u := by
  rw [All_app] at k1
  exact as_does h1 h4 h5 h6 k3 k1.1 (fun ρ a w hg hA hM hW hfr => op_does htt (okX_ok P F.X) h3 k1.2 hg hfr hA hM hW)
theorem as_cons3 {o : Oper} {inps inps' : List Inp} {g : Option Bool} {i : Inp} {v : Option TV} {wr : ML} {al us : List Nat} {ob ob1 : List Prop}
    (htt : TTok P tt) (k3 : AS P F Q all l inps' (putT o.dst v t) (app wr m) (app al u)) (k1 : All (app ob1 ob))
    (h1 : guardOf all t o.guard = some g := by exact rfl) (h2 : takeI (needs t g o.op) inps = some (i, inps') := by exact rfl) (h3 : evalOp tt (okX P F.X) t m (slotOf o.dst) g i o.op = some ⟨v, wr, al, us, ob⟩ := by exact rfl) (h4 : guardOk g v wr al = some ob1 := by exact rfl) (h5 : disj al u = true := by exact rfl) (h6 : dstOk F.n o.dst v = true := by exact rfl) : AS P F Q all (o :: l) inps t m u := as_cons htt h1 h2 h3 h4 h5 h6 k3 k1
theorem as_call (htt : TTok P tt) {o : Oper} {inps inps' : List Inp} {g : Option Bool} {c : CFD} {f : Nat} {cl : Call} {vs : List SV} {o1 : List Prop} {π : List (Nat × Nat)} {v : Option TV} {wr : ML} {al us : List Nat} {ob ob1 : List Prop} (h1 : guardOf all t o.guard = some g) (h2 : takeI (needs t g o.op) inps = some (.call c, inps')) (ho : o.op = .call cl) (hc : cl.callee = .value (.func f)) (hf : Nat.beq c.f f = true)
    (hv : opdsOf t g cl.args.toList = some (vs, o1)) (hπ : mpM c.pre m (mpSs c.args vs []) = π) (hG : evCallG (okX P F.X) o1 vs m (slotOf o.dst) g c π = some ⟨v, wr, al, us, ob⟩)
    (h4 : guardOk g v wr al = some ob1) (h5 : disj al u = true) (h6 : dstOk F.n o.dst v = true) (k3 : AS P F Q all l inps' (putT o.dst v t) (app wr m) (app al u)) (k1 : All (app ob1 ob)) : AS P F Q all (o :: l) inps t m u := by
  refine as_cons htt (us := us) h1 h2 ?_ h4 h5 h6 k3 k1
  rw [ho]
  simp only [evalOp, hc, evCall, hf, hv, hπ]
  exact hG
theorem as_call3 {o : Oper} {inps inps' : List Inp} {g : Option Bool} {c : CFD} {f : Nat} {cl : Call} {vs : List SV} {o1 : List Prop} {π : List (Nat × Nat)} {v : Option TV} {wr : ML} {al us : List Nat} {ob ob1 : List Prop}
    (htt : TTok P tt) (k3 : AS P F Q all l inps' (putT o.dst v t) (app wr m) (app al u)) (k1 : All (app ob1 ob))
    (h1 : guardOf all t o.guard = some g := by exact rfl) (h2 : takeI (needs t g o.op) inps = some (.call c, inps') := by exact rfl) (ho : o.op = .call cl := by exact rfl) (hc : cl.callee = .value (.func f) := by exact rfl) (hf : Nat.beq c.f f = true := by exact rfl) (hv : opdsOf t g cl.args.toList = some (vs, o1) := by exact rfl) (hπ : mpM c.pre m (mpSs c.args vs []) = π := by dsimp only [mpCap, Nat.reduceAdd, Nat.reduceMul, Nat.zero_add, List.map, mpM, mpTL, mpO, mpB, lkO, mpT, mpSs, mpS, mpCs, mpC, mpN, lk, idN, keys, resT, ro] <;> exact rfl) (hG : evCallG (okX P F.X) o1 vs m (slotOf o.dst) g c π = some ⟨v, wr, al, us, ob⟩ := by exact rfl) (h4 : guardOk g v wr al = some ob1 := by exact rfl) (h5 : disj al u = true := by exact rfl) (h6 : dstOk F.n o.dst v = true := by exact rfl) : AS P F Q all (o :: l) inps t m u := as_call htt h1 h2 ho hc hf hv hπ hG h4 h5 h6 k3 k1
theorem as_sure (htt : TTok P tt) {o : Oper} {inps inps' : List Inp} {g : Option Bool} {c : CFD} {f : Nat} {cl : Call} {vs : List SV} {o1 : List Prop} {π : List (Nat × Nat)} {v : Option TV} {wr : ML} {al us : List Nat} {ob ob1 : List Prop} (h1 : guardOf all t o.guard = some g) (h2 : takeI (needs t g o.op) inps = some (.sure c, inps')) (ho : o.op = .call cl) (hc : cl.callee = .value (.func f)) (hf : Nat.beq c.f f = true)
    (hv : opdsOf t g cl.args.toList = some (vs, o1)) (hπ : mpM c.pre m (mpSs c.args vs []) = π) (hG : evCallG (okX P F.X) o1 vs m (slotOf o.dst) none c π = some ⟨v, wr, al, us, ob⟩)
    (h4 : guardOk g v wr al = some ob1) (h5 : disj al u = true) (h6 : dstOk F.n o.dst v = true) (k3 : AS P F Q all l inps' (putT o.dst v t) (app wr m) (app al u)) (k1 : All (app ob1 ob)) : AS P F Q all (o :: l) inps t m u := by
  refine as_cons htt (us := us) h1 h2 ?_ h4 h5 h6 k3 k1
  rw [ho]
  simp only [evalOp, hc, evCall, hf, hv, hπ]
  exact hG
theorem as_sure3 {o : Oper} {inps inps' : List Inp} {g : Option Bool} {c : CFD} {f : Nat} {cl : Call} {vs : List SV} {o1 : List Prop} {π : List (Nat × Nat)} {v : Option TV} {wr : ML} {al us : List Nat} {ob ob1 : List Prop}
    (htt : TTok P tt) (k3 : AS P F Q all l inps' (putT o.dst v t) (app wr m) (app al u)) (k1 : All (app ob1 ob))
    (h1 : guardOf all t o.guard = some g := by exact rfl) (h2 : takeI (needs t g o.op) inps = some (.sure c, inps') := by exact rfl) (ho : o.op = .call cl := by exact rfl) (hc : cl.callee = .value (.func f) := by exact rfl) (hf : Nat.beq c.f f = true := by exact rfl) (hv : opdsOf t g cl.args.toList = some (vs, o1) := by exact rfl) (hπ : mpM c.pre m (mpSs c.args vs []) = π := by dsimp only [mpCap, Nat.reduceAdd, Nat.reduceMul, Nat.zero_add, List.map, mpM, mpTL, mpO, mpB, lkO, mpT, mpSs, mpS, mpCs, mpC, mpN, lk, idN, keys, resT, ro] <;> exact rfl) (hG : evCallG (okX P F.X) o1 vs m (slotOf o.dst) none c π = some ⟨v, wr, al, us, ob⟩ := by exact rfl) (h4 : guardOk g v wr al = some ob1 := by exact rfl) (h5 : disj al u = true := by exact rfl) (h6 : dstOk F.n o.dst v = true := by exact rfl) : AS P F Q all (o :: l) inps t m u := as_sure htt h1 h2 ho hc hf hv hπ hG h4 h5 h6 k3 k1
def wrapB : BinOp → IntKind → Int → Int → Option Int
  | .add, k, a, b => some (k.wrap (a + b))
  | .sub, k, a, b => some (k.wrap (a - b))
  | .mul, k, a, b => some (k.wrap (a * b))
  | _, _, _, _ => none
/-- arithmetic that wraps -/
theorem as_wrap {o : Oper} {inps : List Inp} {op : BinOp} {T T' : Nat} {x y : Operand} {k : IntKind} {p q z : Int} {o1 o2 : List Prop} (h1 : guardOf all t o.guard = some none) (ho : o.op = .binOp op T x y T') (hx : opd t none x = some (.one (.lit (.int k p)), o1)) (hy : opd t none y = some (.one (.lit (.int k q)), o2)) (hz : wrapB op k p q = some z)
    (h6 : dstOk F.n o.dst (some (.sv (.one (.lit (.int k z))))) = true) (k3 : AS P F Q all l inps (putT o.dst (some (.sv (.one (.lit (.int k z))))) t) m u) (k1 : All (app o1 o2)) : AS P F Q all (o :: l) inps t m u := by
  rw [All_app] at k1
  refine as_does (wr := []) (al := []) (inps' := inps) h1 rfl rfl h6 k3 trivial (fun ρ a w hg hA hM hW hfr => ?_)
  have ex := (opd_sound hx k1.1 hg hA).1
  have ey := (opd_sound hy k1.2 hg hA).1
  refine does_of hW fun w h₁ => ⟨?_, dry fun _ => by simp only [execOp, ho, ex, ey]; exact Co.tb (Co.tb (Co.teqGuard _ _ _ _ _ _) fun _ => Co.tbinInt _ _ _ _ _ _) fun _ => Co.tpure _⟩
  have hb : (binOp op T (.int k p) (.int k q)).run P w = .ok (.int k z) w := by
    cases op <;> simp [wrapB] at hz <;> subst hz <;> simp [binOp, Op.intArith]
  have hguard : (eqGuard op T x y (.int k p) (.int k q)).run P w = .ok () w := by
    unfold eqGuard
    cases op <;> simp [wrapB] at hz <;> simp
  exact Runs.pure (v := .sv (.one (.lit (.int k z)))) (by simp [execOp, ho, ex, ey, hguard, hb]) ⟨rfl, rfl⟩ (hM.aside h₁) (hW.aside h₁)
theorem as_wrap3 {o : Oper} {inps : List Inp} {op : BinOp} {T T' : Nat} {x y : Operand} {k : IntKind} {p q z : Int} {o1 o2 : List Prop}
    (k3 : AS P F Q all l inps (putT o.dst (some (.sv (.one (.lit (.int k z))))) t) m u) (k1 : All (app o1 o2))
    (h1 : guardOf all t o.guard = some none := by exact rfl) (ho : o.op = .binOp op T x y T' := by exact rfl) (hx : opd t none x = some (.one (.lit (.int k p)), o1) := by exact rfl) (hy : opd t none y = some (.one (.lit (.int k q)), o2) := by exact rfl) (hz : wrapB op k p q = some z := by exact rfl) (h6 : dstOk F.n o.dst (some (.sv (.one (.lit (.int k z))))) = true := by exact rfl) : AS P F Q all (o :: l) inps t m u := as_wrap h1 ho hx hy hz h6 k3 k1
/-- only these blocks -/
def selB (ks : List Nat) : ML → ML
  | [] => []
  | (q, b) :: m => match hasN ks q with
    | true => (q, b) :: selB ks m
    | false => selB ks m
theorem selB_lk {ks : List Nat} : ∀ {m : ML} {q : Nat} {b : Option Blk}, lk (selB ks m) q = some b → lk m q = some b
  | [], _, _, h => h
  | (r, c) :: m, q, b, h => by
    unfold selB at h
    split at h
    · rw [lk_cons] at h ⊢
      split
      · rename_i e; rw [if_pos e] at h; exact h
      · rename_i e; rw [if_neg e] at h; exact selB_lk h
    · rename_i hr
      rw [lk_cons]
      by_cases e : r = q
      · subst e
        exfalso
        have : ∀ {m : ML} {b : Option Blk}, lk (selB ks m) r ≠ some b := by
          intro m
          induction m with
          | nil => intro b h; cases h
          | cons x m ih =>
            intro b h
            obtain ⟨y, d⟩ := x
            unfold selB at h
            split at h
            · rename_i hy
              rw [lk_cons] at h
              by_cases e : y = r
              · subst e; rw [hr] at hy; cases hy
              · rw [if_neg e] at h; exact ih h
            · exact ih h
        exact this h
      · rw [if_neg e]; exact selB_lk h
theorem ar_blocks (ks : List Nat) {R : St → Prop} {k : List It} {m' : ML} (hm : selB ks m = m') (h : AR P F R k ⟨t, m', u⟩) : AR P F R k ⟨t, m, u⟩ := by
  subst hm
  intro a w hS
  obtain ⟨ρ, hE, hA, ⟨B, hM⟩, hU, hW⟩ := hS
  exact h a w ⟨ρ, hE, hA, ⟨B, hM.less (Ext.refl ρ) (fun _ _ => rfl) (fun q bq hq => selB_lk hq)⟩, hU, hW⟩
theorem ar_run {R : St → Prop} {k : List It} {id : Nat} {ops : List Oper} (inps : List Inp) (h : AS P F (kont P F R k) ops ops inps t m u) : AR P F R (.code (.region id ⟨ops⟩ false) :: k) ⟨t, m, u⟩ :=
  fun a w hS => Co.wpK_region (h a w hS)
end
end Eng
end Go.Proofs.Ytgeakpeodhhffaa
namespace Go.Proofs.Ytgeakpeodhhffaa
open Go.RowKit
set_option linter.unusedVariables false
set_option linter.unusedSimpArgs false
namespace Eng
open Tr
/-- the operations l are told one by one; K: what is asked of those that are told, and of what is known behind them -/
def ED (K : List Rc → TL → ML → List Nat → Prop) (tt : TT) (ok : Ok) (all : List Oper) (n : Nat) (l : List Oper) (inps : List Inp) (t : TL) (m : ML) (u : List Nat) : Prop := ∃ rs, evalD tt ok all n l inps t m u = some rs ∧ K rs (endT rs t) (endM rs m) (endU rs u)
section
variable {K : List Rc → TL → ML → List Nat → Prop} {tt : TT} {ok : Ok} {all l : List Oper} {n : Nat} {t : TL} {m : ML} {u : List Nat}
theorem ed_hide {inps : List Inp} (h : ∀ K', K' = K → ED K' tt ok all n l inps t m u) : ED K tt ok all n l inps t m u := h K rfl
theorem ed_nil (h : K [] t m u) : ED K tt ok all n [] [] t m u := ⟨[], rfl, h⟩
theorem ed_cons {o : Oper} {inps inps' : List Inp} {g : Option Bool} {i : Inp} {v0 v : Option TV} {wr0 wr ms : ML} {ts : TL} {al0 al N us sl : List Nat} {ob0 ob ob1 : List Prop} (hsl : app (slotsOf o.op) (guardS all o.guard) = sl) (hts : selT t sl = ts) (h1 : guardOf all ts o.guard = some g) (h2 : takeI (needs t g o.op) inps = some (i, inps'))
    (h3 : evalOp tt ok t m (slotOf o.dst) g i o.op = some ⟨v0, wr0, al0, N, ob0⟩) (hms : selM m N = ms) (h4 : evalOp tt ok ts ms (slotOf o.dst) g i o.op = some ⟨v, wr, al, us, ob⟩)
    (h5 : guardOk g v wr al = some ob1) (h6 : disj al u = true) (h7 : dstOk n o.dst v = true) (k : ED (fun rs => K (⟨o, sl, N, g, i, ⟨v, wr, al, us, ob⟩, ob1⟩ :: rs)) tt ok all n l inps' (putT o.dst v t) (app wr m) (app al u)) : ED K tt ok all n (o :: l) inps t m u := by
  obtain ⟨rs, hr, hk⟩ := k
  subst hsl hts hms
  refine ⟨_ :: rs, ?_, hk⟩
  unfold evalD
  simp only [h1, h2, h3, h4, h5, h6, h7, hr]
theorem ed_cons3 {o : Oper} {inps inps' : List Inp} {g : Option Bool} {i : Inp} {v0 v : Option TV} {wr0 wr ms : ML} {ts : TL} {al0 al N us sl : List Nat} {ob0 ob ob1 : List Prop}
    (k : ED (fun rs => K (⟨o, sl, N, g, i, ⟨v, wr, al, us, ob⟩, ob1⟩ :: rs)) tt ok all n l inps' (putT o.dst v t) (app wr m) (app al u))
    (hsl : app (slotsOf o.op) (guardS all o.guard) = sl := by dsimp only [selT, selM, hasN, app, slotsOf, guardS, nth, opS, opsS, partsS] <;> exact rfl) (hts : selT t sl = ts := by dsimp only [selT, selM, hasN, app, slotsOf, guardS, nth, opS, opsS, partsS] <;> exact rfl) (h1 : guardOf all ts o.guard = some g := by exact rfl) (h2 : takeI (needs t g o.op) inps = some (i, inps') := by exact rfl) (h3 : evalOp tt ok t m (slotOf o.dst) g i o.op = some ⟨v0, wr0, al0, N, ob0⟩ := by exact rfl) (hms : selM m N = ms := by dsimp only [selT, selM, hasN, app, slotsOf, guardS, nth, opS, opsS, partsS, mpCap, Nat.reduceAdd, Nat.reduceMul, Nat.zero_add, List.map, mpM, mpTL, mpO, mpB, lkO, mpT, mpSs, mpS, mpCs, mpC, mpN, lk, idN, keys, resT, ro, rnN, rn, SV.cells, slotOf] <;> exact rfl) (h4 : evalOp tt ok ts ms (slotOf o.dst) g i o.op = some ⟨v, wr, al, us, ob⟩ := by exact rfl) (h5 : guardOk g v wr al = some ob1 := by exact rfl) (h6 : disj al u = true := by exact rfl) (h7 : dstOk n o.dst v = true := by exact rfl) : ED K tt ok all n (o :: l) inps t m u := ed_cons hsl hts h1 h2 h3 hms h4 h5 h6 h7 k
theorem ed_call {o : Oper} {inps inps' : List Inp} {g : Option Bool} {c : CFD} {f : Nat} {cl : Call} {vs vs' : List SV} {o1 o1' : List Prop} {π π' : List (Nat × Nat)} {v0 v : Option TV} {wr0 wr ms : ML} {ts : TL} {al0 al N us sl : List Nat} {ob0 ob ob1 : List Prop} (hsl : app (slotsOf o.op) (guardS all o.guard) = sl) (hts : selT t sl = ts) (h1 : guardOf all ts o.guard = some g) (h2 : takeI (needs t g o.op) inps = some (.call c, inps')) (ho : o.op = .call cl) (hc : cl.callee = .value (.func f)) (hf : Nat.beq c.f f = true)
    (hv : opdsOf t g cl.args.toList = some (vs, o1)) (hπ : mpM c.pre m (mpSs c.args vs []) = π) (hG : evCallG ok o1 vs m (slotOf o.dst) g c π = some ⟨v0, wr0, al0, N, ob0⟩) (hms : selM m N = ms)
    (hv' : opdsOf ts g cl.args.toList = some (vs', o1')) (hπ' : mpM c.pre ms (mpSs c.args vs' []) = π') (hG' : evCallG ok o1' vs' ms (slotOf o.dst) g c π' = some ⟨v, wr, al, us, ob⟩)
    (h5 : guardOk g v wr al = some ob1) (h6 : disj al u = true) (h7 : dstOk n o.dst v = true) (k : ED (fun rs => K (⟨o, sl, N, g, .call c, ⟨v, wr, al, us, ob⟩, ob1⟩ :: rs)) tt ok all n l inps' (putT o.dst v t) (app wr m) (app al u)) : ED K tt ok all n (o :: l) inps t m u := by
  refine ed_cons hsl hts h1 h2 (v0 := v0) (wr0 := wr0) (al0 := al0) (ob0 := ob0) ?_ hms ?_ h5 h6 h7 k
  · rw [ho]
    simp only [evalOp, hc, evCall, hf, hv, hπ]
    exact hG
  · rw [ho]
    simp only [evalOp, hc, evCall, hf, hv', hπ']
    exact hG'
theorem ed_call3 {o : Oper} {inps inps' : List Inp} {g : Option Bool} {c : CFD} {f : Nat} {cl : Call} {vs vs' : List SV} {o1 o1' : List Prop} {π π' : List (Nat × Nat)} {v0 v : Option TV} {wr0 wr ms : ML} {ts : TL} {al0 al N us sl : List Nat} {ob0 ob ob1 : List Prop}
    (k : ED (fun rs => K (⟨o, sl, N, g, .call c, ⟨v, wr, al, us, ob⟩, ob1⟩ :: rs)) tt ok all n l inps' (putT o.dst v t) (app wr m) (app al u))
    (hsl : app (slotsOf o.op) (guardS all o.guard) = sl := by dsimp only [selT, selM, hasN, app, slotsOf, guardS, nth, opS, opsS, partsS] <;> exact rfl) (hts : selT t sl = ts := by dsimp only [selT, selM, hasN, app, slotsOf, guardS, nth, opS, opsS, partsS] <;> exact rfl) (h1 : guardOf all ts o.guard = some g := by exact rfl) (h2 : takeI (needs t g o.op) inps = some (.call c, inps') := by exact rfl) (ho : o.op = .call cl := by exact rfl) (hc : cl.callee = .value (.func f) := by exact rfl) (hf : Nat.beq c.f f = true := by exact rfl) (hv : opdsOf t g cl.args.toList = some (vs, o1) := by exact rfl) (hπ : mpM c.pre m (mpSs c.args vs []) = π := by dsimp only [mpCap, Nat.reduceAdd, Nat.reduceMul, Nat.zero_add, List.map, mpM, mpTL, mpO, mpB, lkO, mpT, mpSs, mpS, mpCs, mpC, mpN, lk, idN, keys, resT, ro] <;> exact rfl) (hG : evCallG ok o1 vs m (slotOf o.dst) g c π = some ⟨v0, wr0, al0, N, ob0⟩ := by exact rfl) (hms : selM m N = ms := by dsimp only [selT, selM, hasN, app, slotsOf, guardS, nth, opS, opsS, partsS, mpCap, Nat.reduceAdd, Nat.reduceMul, Nat.zero_add, List.map, mpM, mpTL, mpO, mpB, lkO, mpT, mpSs, mpS, mpCs, mpC, mpN, lk, idN, keys, resT, ro, rnN, rn, SV.cells, slotOf] <;> exact rfl) (hv' : opdsOf ts g cl.args.toList = some (vs', o1') := by exact rfl) (hπ' : mpM c.pre ms (mpSs c.args vs' []) = π' := by dsimp only [mpCap, Nat.reduceAdd, Nat.reduceMul, Nat.zero_add, List.map, mpM, mpTL, mpO, mpB, lkO, mpT, mpSs, mpS, mpCs, mpC, mpN, lk, idN, keys, resT, ro] <;> exact rfl) (hG' : evCallG ok o1' vs' ms (slotOf o.dst) g c π' = some ⟨v, wr, al, us, ob⟩ := by exact rfl) (h5 : guardOk g v wr al = some ob1 := by exact rfl) (h6 : disj al u = true := by exact rfl) (h7 : dstOk n o.dst v = true := by exact rfl) : ED K tt ok all n (o :: l) inps t m u := ed_call hsl hts h1 h2 ho hc hf hv hπ hG hms hv' hπ' hG' h5 h6 h7 k
theorem ed_sure {o : Oper} {inps inps' : List Inp} {g : Option Bool} {c : CFD} {f : Nat} {cl : Call} {vs vs' : List SV} {o1 o1' : List Prop} {π π' : List (Nat × Nat)} {v0 v : Option TV} {wr0 wr ms : ML} {ts : TL} {al0 al N us sl : List Nat} {ob0 ob ob1 : List Prop} (hsl : app (slotsOf o.op) (guardS all o.guard) = sl) (hts : selT t sl = ts) (h1 : guardOf all ts o.guard = some g) (h2 : takeI (needs t g o.op) inps = some (.sure c, inps')) (ho : o.op = .call cl) (hc : cl.callee = .value (.func f)) (hf : Nat.beq c.f f = true)
    (hv : opdsOf t g cl.args.toList = some (vs, o1)) (hπ : mpM c.pre m (mpSs c.args vs []) = π) (hG : evCallG ok o1 vs m (slotOf o.dst) none c π = some ⟨v0, wr0, al0, N, ob0⟩) (hms : selM m N = ms)
    (hv' : opdsOf ts g cl.args.toList = some (vs', o1')) (hπ' : mpM c.pre ms (mpSs c.args vs' []) = π') (hG' : evCallG ok o1' vs' ms (slotOf o.dst) none c π' = some ⟨v, wr, al, us, ob⟩)
    (h5 : guardOk g v wr al = some ob1) (h6 : disj al u = true) (h7 : dstOk n o.dst v = true) (k : ED (fun rs => K (⟨o, sl, N, g, .sure c, ⟨v, wr, al, us, ob⟩, ob1⟩ :: rs)) tt ok all n l inps' (putT o.dst v t) (app wr m) (app al u)) : ED K tt ok all n (o :: l) inps t m u := by
  refine ed_cons hsl hts h1 h2 (v0 := v0) (wr0 := wr0) (al0 := al0) (ob0 := ob0) ?_ hms ?_ h5 h6 h7 k
  · rw [ho]
    simp only [evalOp, hc, evCall, hf, hv, hπ]
    exact hG
  · rw [ho]
    simp only [evalOp, hc, evCall, hf, hv', hπ']
    exact hG'
theorem ed_sure3 {o : Oper} {inps inps' : List Inp} {g : Option Bool} {c : CFD} {f : Nat} {cl : Call} {vs vs' : List SV} {o1 o1' : List Prop} {π π' : List (Nat × Nat)} {v0 v : Option TV} {wr0 wr ms : ML} {ts : TL} {al0 al N us sl : List Nat} {ob0 ob ob1 : List Prop}
    (k : ED (fun rs => K (⟨o, sl, N, g, .sure c, ⟨v, wr, al, us, ob⟩, ob1⟩ :: rs)) tt ok all n l inps' (putT o.dst v t) (app wr m) (app al u))
    (hsl : app (slotsOf o.op) (guardS all o.guard) = sl := by dsimp only [selT, selM, hasN, app, slotsOf, guardS, nth, opS, opsS, partsS] <;> exact rfl) (hts : selT t sl = ts := by dsimp only [selT, selM, hasN, app, slotsOf, guardS, nth, opS, opsS, partsS] <;> exact rfl) (h1 : guardOf all ts o.guard = some g := by exact rfl) (h2 : takeI (needs t g o.op) inps = some (.sure c, inps') := by exact rfl) (ho : o.op = .call cl := by exact rfl) (hc : cl.callee = .value (.func f) := by exact rfl) (hf : Nat.beq c.f f = true := by exact rfl) (hv : opdsOf t g cl.args.toList = some (vs, o1) := by exact rfl) (hπ : mpM c.pre m (mpSs c.args vs []) = π := by dsimp only [mpCap, Nat.reduceAdd, Nat.reduceMul, Nat.zero_add, List.map, mpM, mpTL, mpO, mpB, lkO, mpT, mpSs, mpS, mpCs, mpC, mpN, lk, idN, keys, resT, ro] <;> exact rfl) (hG : evCallG ok o1 vs m (slotOf o.dst) none c π = some ⟨v0, wr0, al0, N, ob0⟩ := by exact rfl) (hms : selM m N = ms := by dsimp only [selT, selM, hasN, app, slotsOf, guardS, nth, opS, opsS, partsS, mpCap, Nat.reduceAdd, Nat.reduceMul, Nat.zero_add, List.map, mpM, mpTL, mpO, mpB, lkO, mpT, mpSs, mpS, mpCs, mpC, mpN, lk, idN, keys, resT, ro, rnN, rn, SV.cells, slotOf] <;> exact rfl) (hv' : opdsOf ts g cl.args.toList = some (vs', o1') := by exact rfl) (hπ' : mpM c.pre ms (mpSs c.args vs' []) = π' := by dsimp only [mpCap, Nat.reduceAdd, Nat.reduceMul, Nat.zero_add, List.map, mpM, mpTL, mpO, mpB, lkO, mpT, mpSs, mpS, mpCs, mpC, mpN, lk, idN, keys, resT, ro] <;> exact rfl) (hG' : evCallG ok o1' vs' ms (slotOf o.dst) none c π' = some ⟨v, wr, al, us, ob⟩ := by exact rfl) (h5 : guardOk g v wr al = some ob1 := by exact rfl) (h6 : disj al u = true := by exact rfl) (h7 : dstOk n o.dst v = true := by exact rfl) : ED K tt ok all n (o :: l) inps t m u := ed_sure hsl hts h1 h2 ho hc hf hv hπ hG hms hv' hπ' hG' h5 h6 h7 k
end
section
variable {P : Program} {F : Fr} {tt : TT} {R : St → Prop} {k : List It}
theorem ar_drawS (htt : TTok P tt) (hmix : P.follows .mixedOrders = true) {id : Nat} {ops : List Oper} (inps : List Inp) {t : TL} {m : ML} {u : List Nat}
    (h : ED (fun rs t' m' u' => ∃ prs, prsOf ops [] = some prs ∧ ckAll [] rs prs = true ∧ AR P F R k ⟨t', m', u'⟩ ∧ All (obD rs)) tt (okX P F.X) ops F.n ops inps t m u) : AR P F R (.code (.region id ⟨ops⟩ true) :: k) ⟨t, m, u⟩ := by
  obtain ⟨rs, h1, prs, h2, h3, h4, h5⟩ := h
  exact ar_draw htt hmix h1 h2 h3 rfl rfl rfl rfl h5 h4
end
end Eng
end Go.Proofs.Ytgeakpeodhhffaa

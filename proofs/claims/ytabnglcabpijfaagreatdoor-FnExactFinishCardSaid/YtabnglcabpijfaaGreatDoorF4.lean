/- Lemmas for the proofs, part 4 of 6: a symbolic run of the program, and what it needs. -/
import Derived.RowKit
import Derived.Test.YtabnglcabpijfaaGreatDoorF3
namespace Go.Proofs.YtabnglcabpijfaaGreatDoor
open Go.RowKit
set_option linter.unusedVariables false
set_option linter.unusedSimpArgs false
namespace Eng
open Tr
/-- the operations run to their end, owe nothing, and K goes on -/
def EvK (tt : TT) (ok : Ok) (all : List Oper) (n : Nat) (l : List Oper) (inps : List Inp) (t : TL) (m : ML) (u : List Nat) (K : TL → ML → List Nat → Prop) : Prop :=
  ∃ t' m' u' ob, evalOps tt ok all n l inps t m u = some (t', m', u', ob) ∧ All ob ∧ K t' m' u'
section
variable {tt : TT} {ok : Ok} {all : List Oper} {n : Nat} {t : TL} {m : ML} {u : List Nat} {K : TL → ML → List Nat → Prop}
theorem evk_nil (h : K t m u) : EvK tt ok all n [] [] t m u K := ⟨t, m, u, [], rfl, trivial, h⟩
theorem evk_cons {o : Oper} {l : List Oper} {inps inps' : List Inp} {g : Option Bool} {i : Inp} {v : Option TV} {wr : ML} {al us : List Nat} {ob ob1 : List Prop} (h1 : guardOf all t o.guard = some g) (h2 : takeI (needs t g o.op) inps = some (i, inps')) (h3 : evalOp tt ok t m (slotOf o.dst) g i o.op = some ⟨v, wr, al, us, ob⟩)
    (h4 : guardOk g v wr al = some ob1) (h5 : disj al u = true) (h6 : dstOk n o.dst v = true) (k3 : EvK tt ok all n l inps' (putT o.dst v t) (app wr m) (app al u) K) (k1 : All (app ob1 ob)) : EvK tt ok all n (o :: l) inps t m u K := by
  obtain ⟨t', m', u', ob2, e1, e2, e3⟩ := k3
  refine ⟨t', m', u', app ob1 (app ob ob2), ?_, ?_, e3⟩
  · unfold evalOps
    simp only [h1, h2, h3, h4, h5, h6, e1]
  · rw [All_app] at k1; rw [All_app, All_app]; exact ⟨k1.1, k1.2, e2⟩
theorem evk_cons3 {o : Oper} {l : List Oper} {inps inps' : List Inp} {g : Option Bool} {i : Inp} {v : Option TV} {wr : ML} {al us : List Nat} {ob ob1 : List Prop}
    (k3 : EvK tt ok all n l inps' (putT o.dst v t) (app wr m) (app al u) K) (k1 : All (app ob1 ob))
    (h1 : guardOf all t o.guard = some g := by exact rfl) (h2 : takeI (needs t g o.op) inps = some (i, inps') := by exact rfl) (h3 : evalOp tt ok t m (slotOf o.dst) g i o.op = some ⟨v, wr, al, us, ob⟩ := by exact rfl) (h4 : guardOk g v wr al = some ob1 := by exact rfl) (h5 : disj al u = true := by exact rfl) (h6 : dstOk n o.dst v = true := by exact rfl) : EvK tt ok all n (o :: l) inps t m u K := evk_cons h1 h2 h3 h4 h5 h6 k3 k1
theorem evk_call {o : Oper} {l : List Oper} {inps inps' : List Inp} {g : Option Bool} {c : CFD} {f : Nat} {cl : Call} {vs : List SV} {o1 : List Prop} {π : List (Nat × Nat)} {v : Option TV} {wr : ML} {al us : List Nat} {ob ob1 : List Prop} (h1 : guardOf all t o.guard = some g) (h2 : takeI (needs t g o.op) inps = some (.call c, inps')) (ho : o.op = .call cl) (hc : cl.callee = .value (.func f)) (hf : Nat.beq c.f f = true)
    (hv : opdsOf t g cl.args.toList = some (vs, o1)) (hπ : mpM c.pre m (mpSs c.args vs []) = π) (hG : evCallG ok o1 vs m (slotOf o.dst) g c π = some ⟨v, wr, al, us, ob⟩)
    (h4 : guardOk g v wr al = some ob1) (h5 : disj al u = true) (h6 : dstOk n o.dst v = true) (k3 : EvK tt ok all n l inps' (putT o.dst v t) (app wr m) (app al u) K) (k1 : All (app ob1 ob)) : EvK tt ok all n (o :: l) inps t m u K := by
  refine evk_cons (us := us) h1 h2 ?_ h4 h5 h6 k3 k1
  rw [ho]
  simp only [evalOp, hc, evCall, hf, hv, hπ]
  exact hG
theorem evk_call3 {o : Oper} {l : List Oper} {inps inps' : List Inp} {g : Option Bool} {c : CFD} {f : Nat} {cl : Call} {vs : List SV} {o1 : List Prop} {π : List (Nat × Nat)} {v : Option TV} {wr : ML} {al us : List Nat} {ob ob1 : List Prop}
    (k3 : EvK tt ok all n l inps' (putT o.dst v t) (app wr m) (app al u) K) (k1 : All (app ob1 ob))
    (h1 : guardOf all t o.guard = some g := by exact rfl) (h2 : takeI (needs t g o.op) inps = some (.call c, inps') := by exact rfl) (ho : o.op = .call cl := by exact rfl) (hc : cl.callee = .value (.func f) := by exact rfl) (hf : Nat.beq c.f f = true := by exact rfl) (hv : opdsOf t g cl.args.toList = some (vs, o1) := by exact rfl) (hπ : mpM c.pre m (mpSs c.args vs []) = π := by dsimp only [mpCap, Nat.reduceAdd, Nat.reduceMul, Nat.zero_add, List.map, mpM, mpTL, mpO, mpB, lkO, mpT, mpSs, mpS, mpCs, mpC, mpN, lk, idN, keys, resT, ro] <;> exact rfl) (hG : evCallG ok o1 vs m (slotOf o.dst) g c π = some ⟨v, wr, al, us, ob⟩ := by exact rfl) (h4 : guardOk g v wr al = some ob1 := by exact rfl) (h5 : disj al u = true := by exact rfl) (h6 : dstOk n o.dst v = true := by exact rfl) : EvK tt ok all n (o :: l) inps t m u K := evk_call h1 h2 ho hc hf hv hπ hG h4 h5 h6 k3 k1
theorem evk_sure {o : Oper} {l : List Oper} {inps inps' : List Inp} {g : Option Bool} {c : CFD} {f : Nat} {cl : Call} {vs : List SV} {o1 : List Prop} {π : List (Nat × Nat)} {v : Option TV} {wr : ML} {al us : List Nat} {ob ob1 : List Prop} (h1 : guardOf all t o.guard = some g) (h2 : takeI (needs t g o.op) inps = some (.sure c, inps')) (ho : o.op = .call cl) (hc : cl.callee = .value (.func f)) (hf : Nat.beq c.f f = true)
    (hv : opdsOf t g cl.args.toList = some (vs, o1)) (hπ : mpM c.pre m (mpSs c.args vs []) = π) (hG : evCallG ok o1 vs m (slotOf o.dst) none c π = some ⟨v, wr, al, us, ob⟩)
    (h4 : guardOk g v wr al = some ob1) (h5 : disj al u = true) (h6 : dstOk n o.dst v = true) (k3 : EvK tt ok all n l inps' (putT o.dst v t) (app wr m) (app al u) K) (k1 : All (app ob1 ob)) : EvK tt ok all n (o :: l) inps t m u K := by
  refine evk_cons (us := us) h1 h2 ?_ h4 h5 h6 k3 k1
  rw [ho]
  simp only [evalOp, hc, evCall, hf, hv, hπ]
  exact hG
theorem evk_sure3 {o : Oper} {l : List Oper} {inps inps' : List Inp} {g : Option Bool} {c : CFD} {f : Nat} {cl : Call} {vs : List SV} {o1 : List Prop} {π : List (Nat × Nat)} {v : Option TV} {wr : ML} {al us : List Nat} {ob ob1 : List Prop}
    (k3 : EvK tt ok all n l inps' (putT o.dst v t) (app wr m) (app al u) K) (k1 : All (app ob1 ob))
    (h1 : guardOf all t o.guard = some g := by exact rfl) (h2 : takeI (needs t g o.op) inps = some (.sure c, inps') := by exact rfl) (ho : o.op = .call cl := by exact rfl) (hc : cl.callee = .value (.func f) := by exact rfl) (hf : Nat.beq c.f f = true := by exact rfl) (hv : opdsOf t g cl.args.toList = some (vs, o1) := by exact rfl) (hπ : mpM c.pre m (mpSs c.args vs []) = π := by dsimp only [mpCap, Nat.reduceAdd, Nat.reduceMul, Nat.zero_add, List.map, mpM, mpTL, mpO, mpB, lkO, mpT, mpSs, mpS, mpCs, mpC, mpN, lk, idN, keys, resT, ro] <;> exact rfl) (hG : evCallG ok o1 vs m (slotOf o.dst) none c π = some ⟨v, wr, al, us, ob⟩ := by exact rfl) (h4 : guardOk g v wr al = some ob1 := by exact rfl) (h5 : disj al u = true := by exact rfl) (h6 : dstOk n o.dst v = true := by exact rfl) : EvK tt ok all n (o :: l) inps t m u K := evk_sure h1 h2 ho hc hf hv hπ hG h4 h5 h6 k3 k1
end
section
variable {P : Program} {F : Fr} {tt : TT}
theorem ar_steps {R : St → Prop} {k : List It} (htt : TTok P tt) {id : Nat} {ops : List Oper} (inps : List Inp) {t : TL} {m : ML} {u : List Nat} (h : EvK tt (okX P F.X) ops F.n ops inps t m u (fun t' m' u' => AR P F R k ⟨t', m', u'⟩)) : AR P F R (.code (.region id ⟨ops⟩ false) :: k) ⟨t, m, u⟩ := by
  obtain ⟨t', m', u', ob, e1, e2, e3⟩ := h
  exact ar_region htt e1 e2 e3
end
end Eng
end Go.Proofs.YtabnglcabpijfaaGreatDoor
namespace Go.Proofs.YtabnglcabpijfaaGreatDoor
open Go.RowKit
set_option linter.unusedVariables false
set_option linter.unusedSimpArgs false
namespace Eng
open Tr
/-- the operations l, and what follows them -/
def AS (P : Program) (F : Fr) (Q : Exit → Act → World → Prop) (all l : List Oper) (inps : List Inp) (t : TL) (m : ML) (u : List Nat) : Prop :=
  ∀ a w, StRel F ⟨t, m, u⟩ a w → wpList P all.toArray Q l a w
section
variable {P : Program} {F : Fr} {tt : TT} {Q : Exit → Act → World → Prop} {all l : List Oper} {t : TL} {m : ML} {u : List Nat}
theorem as_nil {R : St → Prop} {k : List It} (h : AR P F R k ⟨t, m, u⟩) : AS P F (kont P F R k) all [] [] t m u := fun a w hS => h a w hS
theorem as_does {o : Oper} {inps' inps : List Inp} {g : Option Bool} {v : Option TV} {wr : ML} {al : List Nat} {ob1 : List Prop} (h1 : guardOf all t o.guard = some g) (h4 : guardOk g v wr al = some ob1) (h5 : disj al u = true) (h6 : dstOk F.n o.dst v = true) (k3 : AS P F Q all l inps' (putT o.dst v t) (app wr m) (app al u)) (k1 : All ob1)
    (hd : ∀ ρ a w, GT g → ARel F.X ρ F.n t a → MRel F.X ρ w m → WRel F.X w → (∀ r ∈ al, ρ r = none) → Does P F.X ρ w m al o a v wr) : AS P F Q all (o :: l) inps t m u := by
  intro a w hS
  obtain ⟨ρ, hE, hA, hM, hU, hW⟩ := hS
  have hfr : ∀ r ∈ al, ρ r = none := by
    intro r hr
    cases hq : ρ r with
    | none => rfl
    | some y => exact absurd (hU r y hq) (disj_sound h5 r hr)
  obtain ⟨hw1, hw2⟩ := guardOf_sound h1 hA
  have next : ∀ x w' ρ', (∀ tv, v = some tv → TRel F.X ρ' tv x) → Ext ρ ρ' → (∀ r y, ρ' r = some y → ρ r = some y ∨ r ∈ al) → MRel F.X ρ' w' (app wr m) → WRel F.X w' → wpList P all.toArray Q l (a.put o.dst x) w' := by
    intro x w' ρ' k1 k2 k3' k4 k5
    refine k3 _ _ ⟨ρ', fun q y hq => k2 q y (hE q y hq), (hA.ext k2).put' h6 k1, k4, fun r y hr => ?_, k5⟩
    show r ∈ app al u
    rw [app_eq, List.mem_append]
    rcases k3' r y hr with h | h
    · exact .inr (hU r y h)
    · exact .inl h
  unfold wpList
  cases hwt : Region.wanted o (yielded all.toArray a.tmps) with
  | true =>
    rw [if_pos rfl]
    exact .inl (hd ρ a w (hw1 hwt) hA hM hW hfr _ _ next)
  | false =>
    rw [if_neg (by simp)]
    obtain rfl := hw2 hwt
    unfold guardOk at h4
    split at h4
    · rename_i h1; cases h1
    · rename_i b b' s' h1
      obtain rfl := Option.some.inj h4
      obtain ⟨hb', _⟩ := k1
      have hbf : b = false := (Option.some.inj h1).symm
      refine next undef w ρ (fun tv htv => ?_) (Ext.refl ρ) (fun _ _ h => .inl h) hM hW
      obtain rfl := Option.some.inj htv
      exact ⟨(fun h => by rw [hb', hbf] at h; cases h), fun _ => rfl⟩
    · rename_i b h1 _
      obtain rfl := Option.some.inj h4
      have h2 : b = true := k1.1
      have h3 : b = false := (Option.some.inj h1).symm
      rw [h2] at h3; cases h3
theorem as_cons (htt : TTok P tt) {o : Oper} {inps inps' : List Inp} {g : Option Bool} {i : Inp} {v : Option TV} {wr : ML} {al us : List Nat} {ob ob1 : List Prop} (h1 : guardOf all t o.guard = some g) (h2 : takeI (needs t g o.op) inps = some (i, inps')) (h3 : evalOp tt (okX P F.X) t m (slotOf o.dst) g i o.op = some ⟨v, wr, al, us, ob⟩)
    (h4 : guardOk g v wr al = some ob1) (h5 : disj al u = true) (h6 : dstOk F.n o.dst v = true) (k3 : AS P F Q all l inps' (putT o.dst v t) (app wr m) (app al u)) (k1 : All (app ob1 ob)) : AS P F Q all (o :: l) inps t m u := by
  rw [All_app] at k1
  exact as_does h1 h4 h5 h6 k3 k1.1 (fun ρ a w hg hA hM hW hfr => op_does htt (okX_ok P F.X) h3 k1.2 hg hfr hA hM hW)
theorem as_cons3 {o : Oper} {inps inps' : List Inp} {g : Option Bool} {i : Inp} {v : Option TV} {wr : ML} {al us : List Nat} {ob ob1 : List Prop}
    (htt : TTok P tt) (k3 : AS P F Q all l inps' (putT o.dst v t) (app wr m) (app al u)) (k1 : All (app ob1 ob))
    (h1 : guardOf all t o.guard = some g := by exact rfl) (h2 : takeI (needs t g o.op) inps = some (i, inps') := by exact rfl) (h3 : evalOp tt (okX P F.X) t m (slotOf o.dst) g i o.op = some ⟨v, wr, al, us, ob⟩ := by exact rfl) (h4 : guardOk g v wr al = some ob1 := by exact rfl) (h5 : disj al u = true := by exact rfl) (h6 : dstOk F.n o.dst v = true := by exact rfl) : AS P F Q all (o :: l) inps t m u := as_cons htt h1 h2 h3 h4 h5 h6 k3 k1
theorem as_call (htt : TTok P tt) {o : Oper} {inps inps' : List Inp} {g : Option Bool} {c : CFD} {f : Nat} {cl : Call} {vs : List SV} {o1 : List Prop} {π : List (Nat × Nat)} {v : Option TV} {wr : ML} {al us : List Nat} {ob ob1 : List Prop} (h1 : guardOf all t o.guard = some g) (h2 : takeI (needs t g o.op) inps = some (.call c, inps')) (ho : o.op = .call cl) (hc : cl.callee = .value (.func f)) (hf : Nat.beq c.f f = true)
    (hv : opdsOf t g cl.args.toList = some (vs, o1)) (hπ : mpM c.pre m (mpSs c.args vs []) = π) (hG : evCallG (okX P F.X) o1 vs m (slotOf o.dst) g c π = some ⟨v, wr, al, us, ob⟩)
    (h4 : guardOk g v wr al = some ob1) (h5 : disj al u = true) (h6 : dstOk F.n o.dst v = true) (k3 : AS P F Q all l inps' (putT o.dst v t) (app wr m) (app al u)) (k1 : All (app ob1 ob)) : AS P F Q all (o :: l) inps t m u := by
  refine as_cons htt (us := us) h1 h2 ?_ h4 h5 h6 k3 k1
  rw [ho]
  simp only [evalOp, hc, evCall, hf, hv, hπ]
  exact hG
theorem as_call3 {o : Oper} {inps inps' : List Inp} {g : Option Bool} {c : CFD} {f : Nat} {cl : Call} {vs : List SV} {o1 : List Prop} {π : List (Nat × Nat)} {v : Option TV} {wr : ML} {al us : List Nat} {ob ob1 : List Prop}
    (htt : TTok P tt) (k3 : AS P F Q all l inps' (putT o.dst v t) (app wr m) (app al u)) (k1 : All (app ob1 ob))
    (h1 : guardOf all t o.guard = some g := by exact rfl) (h2 : takeI (needs t g o.op) inps = some (.call c, inps') := by exact rfl) (ho : o.op = .call cl := by exact rfl) (hc : cl.callee = .value (.func f) := by exact rfl) (hf : Nat.beq c.f f = true := by exact rfl) (hv : opdsOf t g cl.args.toList = some (vs, o1) := by exact rfl) (hπ : mpM c.pre m (mpSs c.args vs []) = π := by dsimp only [mpCap, Nat.reduceAdd, Nat.reduceMul, Nat.zero_add, List.map, mpM, mpTL, mpO, mpB, lkO, mpT, mpSs, mpS, mpCs, mpC, mpN, lk, idN, keys, resT, ro] <;> exact rfl) (hG : evCallG (okX P F.X) o1 vs m (slotOf o.dst) g c π = some ⟨v, wr, al, us, ob⟩ := by exact rfl) (h4 : guardOk g v wr al = some ob1 := by exact rfl) (h5 : disj al u = true := by exact rfl) (h6 : dstOk F.n o.dst v = true := by exact rfl) : AS P F Q all (o :: l) inps t m u := as_call htt h1 h2 ho hc hf hv hπ hG h4 h5 h6 k3 k1
theorem as_sure (htt : TTok P tt) {o : Oper} {inps inps' : List Inp} {g : Option Bool} {c : CFD} {f : Nat} {cl : Call} {vs : List SV} {o1 : List Prop} {π : List (Nat × Nat)} {v : Option TV} {wr : ML} {al us : List Nat} {ob ob1 : List Prop} (h1 : guardOf all t o.guard = some g) (h2 : takeI (needs t g o.op) inps = some (.sure c, inps')) (ho : o.op = .call cl) (hc : cl.callee = .value (.func f)) (hf : Nat.beq c.f f = true)
    (hv : opdsOf t g cl.args.toList = some (vs, o1)) (hπ : mpM c.pre m (mpSs c.args vs []) = π) (hG : evCallG (okX P F.X) o1 vs m (slotOf o.dst) none c π = some ⟨v, wr, al, us, ob⟩)
    (h4 : guardOk g v wr al = some ob1) (h5 : disj al u = true) (h6 : dstOk F.n o.dst v = true) (k3 : AS P F Q all l inps' (putT o.dst v t) (app wr m) (app al u)) (k1 : All (app ob1 ob)) : AS P F Q all (o :: l) inps t m u := by
  refine as_cons htt (us := us) h1 h2 ?_ h4 h5 h6 k3 k1
  rw [ho]
  simp only [evalOp, hc, evCall, hf, hv, hπ]
  exact hG
theorem as_sure3 {o : Oper} {inps inps' : List Inp} {g : Option Bool} {c : CFD} {f : Nat} {cl : Call} {vs : List SV} {o1 : List Prop} {π : List (Nat × Nat)} {v : Option TV} {wr : ML} {al us : List Nat} {ob ob1 : List Prop}
    (htt : TTok P tt) (k3 : AS P F Q all l inps' (putT o.dst v t) (app wr m) (app al u)) (k1 : All (app ob1 ob))
    (h1 : guardOf all t o.guard = some g := by exact rfl) (h2 : takeI (needs t g o.op) inps = some (.sure c, inps') := by exact rfl) (ho : o.op = .call cl := by exact rfl) (hc : cl.callee = .value (.func f) := by exact rfl) (hf : Nat.beq c.f f = true := by exact rfl) (hv : opdsOf t g cl.args.toList = some (vs, o1) := by exact rfl) (hπ : mpM c.pre m (mpSs c.args vs []) = π := by dsimp only [mpCap, Nat.reduceAdd, Nat.reduceMul, Nat.zero_add, List.map, mpM, mpTL, mpO, mpB, lkO, mpT, mpSs, mpS, mpCs, mpC, mpN, lk, idN, keys, resT, ro] <;> exact rfl) (hG : evCallG (okX P F.X) o1 vs m (slotOf o.dst) none c π = some ⟨v, wr, al, us, ob⟩ := by exact rfl) (h4 : guardOk g v wr al = some ob1 := by exact rfl) (h5 : disj al u = true := by exact rfl) (h6 : dstOk F.n o.dst v = true := by exact rfl) : AS P F Q all (o :: l) inps t m u := as_sure htt h1 h2 ho hc hf hv hπ hG h4 h5 h6 k3 k1
def wrapB : BinOp → IntKind → Int → Int → Option Int
  | .add, k, a, b => some (k.wrap (a + b))
  | .sub, k, a, b => some (k.wrap (a - b))
  | .mul, k, a, b => some (k.wrap (a * b))
  | _, _, _, _ => none
/-- arithmetic that wraps -/
theorem as_wrap {o : Oper} {inps : List Inp} {op : BinOp} {T T' : Nat} {x y : Operand} {k : IntKind} {p q z : Int} {o1 o2 : List Prop} (h1 : guardOf all t o.guard = some none) (ho : o.op = .binOp op T x y T') (hx : opd t none x = some (.one (.lit (.int k p)), o1)) (hy : opd t none y = some (.one (.lit (.int k q)), o2)) (hz : wrapB op k p q = some z)
    (h6 : dstOk F.n o.dst (some (.sv (.one (.lit (.int k z))))) = true) (k3 : AS P F Q all l inps (putT o.dst (some (.sv (.one (.lit (.int k z))))) t) m u) (k1 : All (app o1 o2)) : AS P F Q all (o :: l) inps t m u := by
  rw [All_app] at k1
  refine as_does (wr := []) (al := []) (inps' := inps) h1 rfl rfl h6 k3 trivial (fun ρ a w hg hA hM hW hfr => ?_)
  refine Runs.does ?_
  have ex := (opd_sound hx k1.1 hg hA).1
  have ey := (opd_sound hy k1.2 hg hA).1
  have hb : (binOp op T (.int k p) (.int k q)).run P w = .ok (.int k z) w := by
    cases op <;> simp [wrapB] at hz <;> subst hz <;> simp [binOp, Op.intArith]
  have hguard : (eqGuard op T x y (.int k p) (.int k q)).run P w = .ok () w := by
    unfold eqGuard
    cases op <;> simp [wrapB] at hz <;> simp
  exact Runs.pure (v := .sv (.one (.lit (.int k z)))) (by simp [execOp, ho, ex, ey, hguard, hb]) ⟨rfl, rfl⟩ hM hW
theorem as_wrap3 {o : Oper} {inps : List Inp} {op : BinOp} {T T' : Nat} {x y : Operand} {k : IntKind} {p q z : Int} {o1 o2 : List Prop}
    (k3 : AS P F Q all l inps (putT o.dst (some (.sv (.one (.lit (.int k z))))) t) m u) (k1 : All (app o1 o2))
    (h1 : guardOf all t o.guard = some none := by exact rfl) (ho : o.op = .binOp op T x y T' := by exact rfl) (hx : opd t none x = some (.one (.lit (.int k p)), o1) := by exact rfl) (hy : opd t none y = some (.one (.lit (.int k q)), o2) := by exact rfl) (hz : wrapB op k p q = some z := by exact rfl) (h6 : dstOk F.n o.dst (some (.sv (.one (.lit (.int k z))))) = true := by exact rfl) : AS P F Q all (o :: l) inps t m u := as_wrap h1 ho hx hy hz h6 k3 k1
/-- only these blocks -/
def selB (ks : List Nat) : ML → ML
  | [] => []
  | (q, b) :: m => match hasN ks q with
    | true => (q, b) :: selB ks m
    | false => selB ks m
theorem selB_lk {ks : List Nat} : ∀ {m : ML} {q : Nat} {b : Option Blk}, lk (selB ks m) q = some b → lk m q = some b
  | [], _, _, h => h
  | (r, c) :: m, q, b, h => by
    unfold selB at h
    split at h
    · rw [lk_cons] at h ⊢
      split
      · rename_i e; rw [if_pos e] at h; exact h
      · rename_i e; rw [if_neg e] at h; exact selB_lk h
    · rename_i hr
      rw [lk_cons]
      by_cases e : r = q
      · subst e
        exfalso
        have : ∀ {m : ML} {b : Option Blk}, lk (selB ks m) r ≠ some b := by
          intro m
          induction m with
          | nil => intro b h; cases h
          | cons x m ih =>
            intro b h
            obtain ⟨y, d⟩ := x
            unfold selB at h
            split at h
            · rename_i hy
              rw [lk_cons] at h
              by_cases e : y = r
              · subst e; rw [hr] at hy; cases hy
              · rw [if_neg e] at h; exact ih h
            · exact ih h
        exact this h
      · rw [if_neg e]; exact selB_lk h
theorem ar_blocks (ks : List Nat) {R : St → Prop} {k : List It} {m' : ML} (hm : selB ks m = m') (h : AR P F R k ⟨t, m', u⟩) : AR P F R k ⟨t, m, u⟩ := by
  subst hm
  intro a w hS
  obtain ⟨ρ, hE, hA, ⟨B, hM⟩, hU, hW⟩ := hS
  exact h a w ⟨ρ, hE, hA, ⟨B, hM.less (Ext.refl ρ) (fun _ _ => rfl) (fun q bq hq => selB_lk hq)⟩, hU, hW⟩
theorem ar_run {R : St → Prop} {k : List It} {id : Nat} {ops : List Oper} (inps : List Inp) (h : AS P F (kont P F R k) ops ops inps t m u) : AR P F R (.code (.region id ⟨ops⟩ false) :: k) ⟨t, m, u⟩ :=
  fun a w hS => wp_region_lit (h a w hS)
end
end Eng
end Go.Proofs.YtabnglcabpijfaaGreatDoor
namespace Go.Proofs.YtabnglcabpijfaaGreatDoor
open Go.RowKit
set_option linter.unusedVariables false
set_option linter.unusedSimpArgs false
namespace Eng
open Tr
/-- the operations l are told one by one; K: what is asked of those that are told, and of what is known behind them -/
def ED (K : List Rc → TL → ML → List Nat → Prop) (tt : TT) (ok : Ok) (all : List Oper) (n : Nat) (l : List Oper) (inps : List Inp) (t : TL) (m : ML) (u : List Nat) : Prop := ∃ rs, evalD tt ok all n l inps t m u = some rs ∧ K rs (endT rs t) (endM rs m) (endU rs u)
section
variable {K : List Rc → TL → ML → List Nat → Prop} {tt : TT} {ok : Ok} {all l : List Oper} {n : Nat} {t : TL} {m : ML} {u : List Nat}
theorem ed_hide {inps : List Inp} (h : ∀ K', K' = K → ED K' tt ok all n l inps t m u) : ED K tt ok all n l inps t m u := h K rfl
theorem ed_nil (h : K [] t m u) : ED K tt ok all n [] [] t m u := ⟨[], rfl, h⟩
theorem ed_cons {o : Oper} {inps inps' : List Inp} {g : Option Bool} {i : Inp} {v0 v : Option TV} {wr0 wr ms : ML} {ts : TL} {al0 al N us sl : List Nat} {ob0 ob ob1 : List Prop} (hsl : app (slotsOf o.op) (guardS all o.guard) = sl) (hts : selT t sl = ts) (h1 : guardOf all ts o.guard = some g) (h2 : takeI (needs t g o.op) inps = some (i, inps'))
    (h3 : evalOp tt ok t m (slotOf o.dst) g i o.op = some ⟨v0, wr0, al0, N, ob0⟩) (hms : selM m N = ms) (h4 : evalOp tt ok ts ms (slotOf o.dst) g i o.op = some ⟨v, wr, al, us, ob⟩)
    (h5 : guardOk g v wr al = some ob1) (h6 : disj al u = true) (h7 : dstOk n o.dst v = true) (k : ED (fun rs => K (⟨o, sl, N, g, i, ⟨v, wr, al, us, ob⟩, ob1⟩ :: rs)) tt ok all n l inps' (putT o.dst v t) (app wr m) (app al u)) : ED K tt ok all n (o :: l) inps t m u := by
  obtain ⟨rs, hr, hk⟩ := k
  subst hsl hts hms
  refine ⟨_ :: rs, ?_, hk⟩
  unfold evalD
  simp only [h1, h2, h3, h4, h5, h6, h7, hr]
theorem ed_cons3 {o : Oper} {inps inps' : List Inp} {g : Option Bool} {i : Inp} {v0 v : Option TV} {wr0 wr ms : ML} {ts : TL} {al0 al N us sl : List Nat} {ob0 ob ob1 : List Prop}
    (k : ED (fun rs => K (⟨o, sl, N, g, i, ⟨v, wr, al, us, ob⟩, ob1⟩ :: rs)) tt ok all n l inps' (putT o.dst v t) (app wr m) (app al u))
    (hsl : app (slotsOf o.op) (guardS all o.guard) = sl := by dsimp only [selT, selM, hasN, app, slotsOf, guardS, nth, opS, opsS, partsS] <;> exact rfl) (hts : selT t sl = ts := by dsimp only [selT, selM, hasN, app, slotsOf, guardS, nth, opS, opsS, partsS] <;> exact rfl) (h1 : guardOf all ts o.guard = some g := by exact rfl) (h2 : takeI (needs t g o.op) inps = some (i, inps') := by exact rfl) (h3 : evalOp tt ok t m (slotOf o.dst) g i o.op = some ⟨v0, wr0, al0, N, ob0⟩ := by exact rfl) (hms : selM m N = ms := by dsimp only [selT, selM, hasN, app, slotsOf, guardS, nth, opS, opsS, partsS, mpCap, Nat.reduceAdd, Nat.reduceMul, Nat.zero_add, List.map, mpM, mpTL, mpO, mpB, lkO, mpT, mpSs, mpS, mpCs, mpC, mpN, lk, idN, keys, resT, ro, rnN, rn, SV.cells, slotOf] <;> exact rfl) (h4 : evalOp tt ok ts ms (slotOf o.dst) g i o.op = some ⟨v, wr, al, us, ob⟩ := by exact rfl) (h5 : guardOk g v wr al = some ob1 := by exact rfl) (h6 : disj al u = true := by exact rfl) (h7 : dstOk n o.dst v = true := by exact rfl) : ED K tt ok all n (o :: l) inps t m u := ed_cons hsl hts h1 h2 h3 hms h4 h5 h6 h7 k
theorem ed_call {o : Oper} {inps inps' : List Inp} {g : Option Bool} {c : CFD} {f : Nat} {cl : Call} {vs vs' : List SV} {o1 o1' : List Prop} {π π' : List (Nat × Nat)} {v0 v : Option TV} {wr0 wr ms : ML} {ts : TL} {al0 al N us sl : List Nat} {ob0 ob ob1 : List Prop} (hsl : app (slotsOf o.op) (guardS all o.guard) = sl) (hts : selT t sl = ts) (h1 : guardOf all ts o.guard = some g) (h2 : takeI (needs t g o.op) inps = some (.call c, inps')) (ho : o.op = .call cl) (hc : cl.callee = .value (.func f)) (hf : Nat.beq c.f f = true)
    (hv : opdsOf t g cl.args.toList = some (vs, o1)) (hπ : mpM c.pre m (mpSs c.args vs []) = π) (hG : evCallG ok o1 vs m (slotOf o.dst) g c π = some ⟨v0, wr0, al0, N, ob0⟩) (hms : selM m N = ms)
    (hv' : opdsOf ts g cl.args.toList = some (vs', o1')) (hπ' : mpM c.pre ms (mpSs c.args vs' []) = π') (hG' : evCallG ok o1' vs' ms (slotOf o.dst) g c π' = some ⟨v, wr, al, us, ob⟩)
    (h5 : guardOk g v wr al = some ob1) (h6 : disj al u = true) (h7 : dstOk n o.dst v = true) (k : ED (fun rs => K (⟨o, sl, N, g, .call c, ⟨v, wr, al, us, ob⟩, ob1⟩ :: rs)) tt ok all n l inps' (putT o.dst v t) (app wr m) (app al u)) : ED K tt ok all n (o :: l) inps t m u := by
  refine ed_cons hsl hts h1 h2 (v0 := v0) (wr0 := wr0) (al0 := al0) (ob0 := ob0) ?_ hms ?_ h5 h6 h7 k
  · rw [ho]
    simp only [evalOp, hc, evCall, hf, hv, hπ]
    exact hG
  · rw [ho]
    simp only [evalOp, hc, evCall, hf, hv', hπ']
    exact hG'
theorem ed_call3 {o : Oper} {inps inps' : List Inp} {g : Option Bool} {c : CFD} {f : Nat} {cl : Call} {vs vs' : List SV} {o1 o1' : List Prop} {π π' : List (Nat × Nat)} {v0 v : Option TV} {wr0 wr ms : ML} {ts : TL} {al0 al N us sl : List Nat} {ob0 ob ob1 : List Prop}
    (k : ED (fun rs => K (⟨o, sl, N, g, .call c, ⟨v, wr, al, us, ob⟩, ob1⟩ :: rs)) tt ok all n l inps' (putT o.dst v t) (app wr m) (app al u))
    (hsl : app (slotsOf o.op) (guardS all o.guard) = sl := by dsimp only [selT, selM, hasN, app, slotsOf, guardS, nth, opS, opsS, partsS] <;> exact rfl) (hts : selT t sl = ts := by dsimp only [selT, selM, hasN, app, slotsOf, guardS, nth, opS, opsS, partsS] <;> exact rfl) (h1 : guardOf all ts o.guard = some g := by exact rfl) (h2 : takeI (needs t g o.op) inps = some (.call c, inps') := by exact rfl) (ho : o.op = .call cl := by exact rfl) (hc : cl.callee = .value (.func f) := by exact rfl) (hf : Nat.beq c.f f = true := by exact rfl) (hv : opdsOf t g cl.args.toList = some (vs, o1) := by exact rfl) (hπ : mpM c.pre m (mpSs c.args vs []) = π := by dsimp only [mpCap, Nat.reduceAdd, Nat.reduceMul, Nat.zero_add, List.map, mpM, mpTL, mpO, mpB, lkO, mpT, mpSs, mpS, mpCs, mpC, mpN, lk, idN, keys, resT, ro] <;> exact rfl) (hG : evCallG ok o1 vs m (slotOf o.dst) g c π = some ⟨v0, wr0, al0, N, ob0⟩ := by exact rfl) (hms : selM m N = ms := by dsimp only [selT, selM, hasN, app, slotsOf, guardS, nth, opS, opsS, partsS, mpCap, Nat.reduceAdd, Nat.reduceMul, Nat.zero_add, List.map, mpM, mpTL, mpO, mpB, lkO, mpT, mpSs, mpS, mpCs, mpC, mpN, lk, idN, keys, resT, ro, rnN, rn, SV.cells, slotOf] <;> exact rfl) (hv' : opdsOf ts g cl.args.toList = some (vs', o1') := by exact rfl) (hπ' : mpM c.pre ms (mpSs c.args vs' []) = π' := by dsimp only [mpCap, Nat.reduceAdd, Nat.reduceMul, Nat.zero_add, List.map, mpM, mpTL, mpO, mpB, lkO, mpT, mpSs, mpS, mpCs, mpC, mpN, lk, idN, keys, resT, ro] <;> exact rfl) (hG' : evCallG ok o1' vs' ms (slotOf o.dst) g c π' = some ⟨v, wr, al, us, ob⟩ := by exact rfl) (h5 : guardOk g v wr al = some ob1 := by exact rfl) (h6 : disj al u = true := by exact rfl) (h7 : dstOk n o.dst v = true := by exact rfl) : ED K tt ok all n (o :: l) inps t m u := ed_call hsl hts h1 h2 ho hc hf hv hπ hG hms hv' hπ' hG' h5 h6 h7 k
theorem ed_sure {o : Oper} {inps inps' : List Inp} {g : Option Bool} {c : CFD} {f : Nat} {cl : Call} {vs vs' : List SV} {o1 o1' : List Prop} {π π' : List (Nat × Nat)} {v0 v : Option TV} {wr0 wr ms : ML} {ts : TL} {al0 al N us sl : List Nat} {ob0 ob ob1 : List Prop} (hsl : app (slotsOf o.op) (guardS all o.guard) = sl) (hts : selT t sl = ts) (h1 : guardOf all ts o.guard = some g) (h2 : takeI (needs t g o.op) inps = some (.sure c, inps')) (ho : o.op = .call cl) (hc : cl.callee = .value (.func f)) (hf : Nat.beq c.f f = true)
    (hv : opdsOf t g cl.args.toList = some (vs, o1)) (hπ : mpM c.pre m (mpSs c.args vs []) = π) (hG : evCallG ok o1 vs m (slotOf o.dst) none c π = some ⟨v0, wr0, al0, N, ob0⟩) (hms : selM m N = ms)
    (hv' : opdsOf ts g cl.args.toList = some (vs', o1')) (hπ' : mpM c.pre ms (mpSs c.args vs' []) = π') (hG' : evCallG ok o1' vs' ms (slotOf o.dst) none c π' = some ⟨v, wr, al, us, ob⟩)
    (h5 : guardOk g v wr al = some ob1) (h6 : disj al u = true) (h7 : dstOk n o.dst v = true) (k : ED (fun rs => K (⟨o, sl, N, g, .sure c, ⟨v, wr, al, us, ob⟩, ob1⟩ :: rs)) tt ok all n l inps' (putT o.dst v t) (app wr m) (app al u)) : ED K tt ok all n (o :: l) inps t m u := by
  refine ed_cons hsl hts h1 h2 (v0 := v0) (wr0 := wr0) (al0 := al0) (ob0 := ob0) ?_ hms ?_ h5 h6 h7 k
  · rw [ho]
    simp only [evalOp, hc, evCall, hf, hv, hπ]
    exact hG
  · rw [ho]
    simp only [evalOp, hc, evCall, hf, hv', hπ']
    exact hG'
theorem ed_sure3 {o : Oper} {inps inps' : List Inp} {g : Option Bool} {c : CFD} {f : Nat} {cl : Call} {vs vs' : List SV} {o1 o1' : List Prop} {π π' : List (Nat × Nat)} {v0 v : Option TV} {wr0 wr ms : ML} {ts : TL} {al0 al N us sl : List Nat} {ob0 ob ob1 : List Prop}
    (k : ED (fun rs => K (⟨o, sl, N, g, .sure c, ⟨v, wr, al, us, ob⟩, ob1⟩ :: rs)) tt ok all n l inps' (putT o.dst v t) (app wr m) (app al u))
    (hsl : app (slotsOf o.op) (guardS all o.guard) = sl := by dsimp only [selT, selM, hasN, app, slotsOf, guardS, nth, opS, opsS, partsS] <;> exact rfl) (hts : selT t sl = ts := by dsimp only [selT, selM, hasN, app, slotsOf, guardS, nth, opS, opsS, partsS] <;> exact rfl) (h1 : guardOf all ts o.guard = some g := by exact rfl) (h2 : takeI (needs t g o.op) inps = some (.sure c, inps') := by exact rfl) (ho : o.op = .call cl := by exact rfl) (hc : cl.callee = .value (.func f) := by exact rfl) (hf : Nat.beq c.f f = true := by exact rfl) (hv : opdsOf t g cl.args.toList = some (vs, o1) := by exact rfl) (hπ : mpM c.pre m (mpSs c.args vs []) = π := by dsimp only [mpCap, Nat.reduceAdd, Nat.reduceMul, Nat.zero_add, List.map, mpM, mpTL, mpO, mpB, lkO, mpT, mpSs, mpS, mpCs, mpC, mpN, lk, idN, keys, resT, ro] <;> exact rfl) (hG : evCallG ok o1 vs m (slotOf o.dst) none c π = some ⟨v0, wr0, al0, N, ob0⟩ := by exact rfl) (hms : selM m N = ms := by dsimp only [selT, selM, hasN, app, slotsOf, guardS, nth, opS, opsS, partsS, mpCap, Nat.reduceAdd, Nat.reduceMul, Nat.zero_add, List.map, mpM, mpTL, mpO, mpB, lkO, mpT, mpSs, mpS, mpCs, mpC, mpN, lk, idN, keys, resT, ro, rnN, rn, SV.cells, slotOf] <;> exact rfl) (hv' : opdsOf ts g cl.args.toList = some (vs', o1') := by exact rfl) (hπ' : mpM c.pre ms (mpSs c.args vs' []) = π' := by dsimp only [mpCap, Nat.reduceAdd, Nat.reduceMul, Nat.zero_add, List.map, mpM, mpTL, mpO, mpB, lkO, mpT, mpSs, mpS, mpCs, mpC, mpN, lk, idN, keys, resT, ro] <;> exact rfl) (hG' : evCallG ok o1' vs' ms (slotOf o.dst) none c π' = some ⟨v, wr, al, us, ob⟩ := by exact rfl) (h5 : guardOk g v wr al = some ob1 := by exact rfl) (h6 : disj al u = true := by exact rfl) (h7 : dstOk n o.dst v = true := by exact rfl) : ED K tt ok all n (o :: l) inps t m u := ed_sure hsl hts h1 h2 ho hc hf hv hπ hG hms hv' hπ' hG' h5 h6 h7 k
end
section
variable {P : Program} {F : Fr} {tt : TT} {R : St → Prop} {k : List It}
theorem ar_drawS (htt : TTok P tt) (hmix : P.follows .mixedOrders = true) {id : Nat} {ops : List Oper} (inps : List Inp) {t : TL} {m : ML} {u : List Nat}
    (h : ED (fun rs t' m' u' => ∃ prs, prsOf ops [] = some prs ∧ ckAll [] rs prs = true ∧ AR P F R k ⟨t', m', u'⟩ ∧ All (obD rs)) tt (okX P F.X) ops F.n ops inps t m u) : AR P F R (.code (.region id ⟨ops⟩ true) :: k) ⟨t, m, u⟩ := by
  obtain ⟨rs, h1, prs, h2, h3, h4, h5⟩ := h
  exact ar_draw htt hmix h1 h2 h3 rfl rfl rfl rfl h5 h4
end
end Eng
end Go.Proofs.YtabnglcabpijfaaGreatDoor
namespace Go.Proofs.YtabnglcabpijfaaGreatDoor
open Go.RowKit
set_option linter.unusedVariables false
set_option linter.unusedSimpArgs false
set_option maxRecDepth 100000
namespace Eng
open Tr
/-- the numbers from k on -/
def mkI (k n : Nat) : List Int := (List.range n).map fun i => ((k + i : Nat) : Int)
theorem mkI_len (k n : Nat) : (mkI k n).length = n := by unfold mkI; rw [List.length_map, List.length_range]
theorem mkI_at {k n i : Nat} (h : i < n) : (mkI k n).getD i 0 = ((k + i : Nat) : Int) := by
  unfold mkI
  rw [List.getD_eq_getElem?_getD, List.getElem?_map, List.getElem?_range h]
  rfl
theorem mkI_succ (k n : Nat) : mkI k (n + 1) = mkI k n ++ [((k + n : Nat) : Int)] := by unfold mkI; rw [List.range_succ, List.map_append]; rfl
theorem mid_set {α : Type} (a b : List α) {i : Nat} (x : α) (ha : a.length = i) (hb : i < a.length + b.length) : (a ++ b).set i x = a ++ [x] ++ b.drop 1 := by
  subst ha
  cases b with
  | nil => simp at hb
  | cons y b => simp
theorem mkI_set {l : List Int} {k i : Nat} (hi : i < l.length) : ((mkI k i ++ l.drop i).map Tr.eI).set i (Tr.eI ((k + i : Nat) : Int)) = (mkI k (i + 1) ++ l.drop (i + 1)).map Tr.eI := by
  rw [← List.map_set, mid_set _ _ _ (mkI_len k i) (by rw [mkI_len, List.length_drop]; omega), mkI_succ, List.drop_drop, Nat.add_comm i 1]
theorem to_set {α : Type} {E : α → D} {l : List α} {z d : α} {i : Nat} (hi : i < l.length) : ((l.take i ++ List.replicate (l.length - i) z).map E).set i (E (l.getD i d)) = (l.take (i + 1) ++ List.replicate (l.length - (i + 1)) z).map E := by
  rw [← List.map_set, mid_set _ _ _ (by rw [List.length_take]; omega) (by rw [List.length_take, List.length_replicate]; omega), take_getD l d hi]
  congr 2
  rw [List.drop_replicate, Nat.sub_sub]
theorem raw_max {α : Type} {w : World} {T k : Nat} {E : α → D} {l : List α} {v : Value} (h : Raw w (rowD T k E l) [v]) : l.length ≤ 9223372036854775807 := by
  obtain ⟨_, _, _, _, h⟩ := h
  rcases h with ⟨_, h, _⟩ | ⟨_, cap, _, _, h1, h2, _⟩
  · rw [List.length_map] at h; omega
  · rw [List.length_map] at h1
    have : maxLen = 9223372036854775807 := rfl
    omega
def c_szI (l : List Int) (a v : Int) : CFD := ⟨58, [.one (ro 3 1 Tr.eI l), (SV.one (.lit (.int .i64 (a))))], [], (TV.sv (.one (.lit (.int .i64 (v))))), [], [], []⟩
theorem fn_szI (l : List Int) (a v : Int) (hl : l.length ≤ 9223372036854775807) (ha : 0 ≤ a ∧ a ≤ 1048576) (hv : v = if a - (l.length : Int) < 0 then -1 else a - (l.length : Int)) : Fn Tryz.prog (c_szI l a v) := by
  refine fn_intro tt_ok Tryz.func58 rfl Tryz.call58 Tryz.ntmps58 Tryz.results58 rfl rfl rfl rfl ?_
  intro X ρ0 hb_ hgl_
  dsimp only [c_szI]
  try refine nrm ?_
  repeat' (refine ar_id ?_; first | refine st1 ?_ | (first | ((first | refine ar_region tt_ok (inps := []) rfl ?_ ?_); rotate_left; (try refine nrm ?_); rotate_right) | refine ret3 ?_ | refine end3 ?_) | (refine ar_cond rfl trivial ?_ ?_ <;> intro hc_ <;> (try simp only [isNilI, inB, reduceCtorEq, cds] at hc_) <;> (try (first | contradiction | (exfalso; omega)))) | refine ar_until (And.intro ?_ (wk3 ?_)))
  all_goals (first | refine ar_id ?_ | (try (focus ((try refine nrmO ?_); (repeat' (first | exact True.intro | refine And.intro ?_ ?_)); all_goals (try (intro (hg_ : _ = true); (try simp only [isNilI, inB, reduceCtorEq, cds] at hg_); (repeat' (first | exact True.intro | refine And.intro ?_ ?_)))); all_goals (first | exact ob1 | skip)))))
  all_goals first | (rw [hv, if_pos (by omega)]) | (rw [hv, if_neg (by omega)])
def c_toI (l : List Int) : CFD := ⟨26, [.one (ro 3 1 Tr.eI l)], [], .sv (.one (.hd 0)), [(0, some (.row 3 1 (l.map Tr.eI)))], [0], []⟩
theorem fn_toI (l : List Int) (hl : l.length ≤ 1048576) : Fn Tryz.prog (c_toI l) := by
  refine fn_intro tt_ok Tryz.func26 rfl Tryz.call26 Tryz.ntmps26 Tryz.results26 rfl rfl rfl rfl ?_
  intro X ρ0 hb_ hgl_
  dsimp only [c_toI]
  try refine nrm ?_
  repeat' (refine ar_id ?_; first | refine st1 ?_ | (first | ((first | refine ar_region tt_ok (inps := []) rfl ?_ ?_); rotate_left; (try refine nrm ?_); rotate_right) | refine ret3 ?_ | refine end3 ?_) | (refine ar_cond rfl trivial ?_ ?_ <;> intro hc_ <;> (try simp only [isNilI, inB, reduceCtorEq, cds] at hc_) <;> (try (first | contradiction | (exfalso; omega)))) | refine ar_until (And.intro ?_ (wk3 ?_)))
  all_goals (first | refine ar_id ?_ | (try (focus ((try refine nrmO ?_); (repeat' (first | exact True.intro | refine And.intro ?_ ?_)); all_goals (try (intro (hg_ : _ = true); (try simp only [isNilI, inB, reduceCtorEq, cds] at hg_); (repeat' (first | exact True.intro | refine And.intro ?_ ?_)))); all_goals (first | exact ob1 | skip)))))
  refine ar_keep 29 (by dsimp only [keepS] <;> exact rfl) ?_
  refine ar_forM (l.length) (fun i => True) (fun i => [(4, (TV.sv (.one (.lit (.int .i64 (i)))))), (3, (TV.sv (.one (.hd 7))))]) (fun i => [(7, some (.row 3 1 ((l.take i ++ List.replicate (l.length - i) 0).map Tr.eI)))]) ?_ ?_ ?_
  rotate_left
  · first | trivial | simp
  (dsimp only [rnCap, capSVs, Int.toNat_natCast, ro, Nat.reduceAdd, Nat.reduceMul, Nat.zero_add, List.map, putT, app, wrapG, gOb, argT, keys, slotOf, dropped, gAnd, wB, rnT, rnS, rnC, rnCs, rnSs, rnM, rnB, rnN, rn, lk, St.over, ded, delL, keepT, menT, menSs, menS, menCs, menC, hasN, resT, SV.cells]; refine wk3 ?_; (focus ((try refine nrmO ?_); (repeat' (first | exact True.intro | refine And.intro ?_ ?_)); all_goals (try (intro (hg_ : _ = true); (try simp only [isNilI, inB, reduceCtorEq, cds] at hg_); (repeat' (first | exact True.intro | refine And.intro ?_ ?_)))); all_goals (first | exact ob1 | exact rfl | skip))))
  rotate_right
  intro i hi_ hiI_
  dsimp only [rnCap, capSVs, Int.toNat_natCast, ro, Nat.reduceAdd, Nat.reduceMul, Nat.zero_add, List.map, putT, app, wrapG, gOb, argT, keys, slotOf, dropped, gAnd, wB, rnT, rnS, rnC, rnCs, rnSs, rnM, rnB, rnN, rn, lk, St.over, ded, delL, keepT, menT, menSs, menS, menCs, menC, hasN, resT, SV.cells]
  have hlen : (l.take i ++ List.replicate (l.length - i) (0 : Int)).length = l.length := by rw [List.length_append, List.length_take, List.length_replicate]; omega
  repeat' (refine ar_id ?_; first | refine st1 ?_ | (refine ar_drawS (id := 5) tt_ok (by kernel_rfl) [.elem (Tr.eI (l.getD i 0)), .elem (Tr.eI ((l.take i ++ List.replicate (l.length - i) 0).getD i 0))] ?_; refine ed_hide ?_; intro K_ hK_; repeat' (first | ((first | refine ed_call3 ?_ | refine ed_sure3 ?_ | refine ed_cons3 ?_); refine ed_hide ?_; intro K_ hK_; (try refine nrmE ?_)) | (refine ed_nil ?_; (repeat subst hK_); dsimp only; refine Exists.intro _ (And.intro rfl (And.intro (by kernel_rfl) (And.intro ?_ ?_))); rotate_left; (try refine nrm ?_); rotate_right))) | (first | ((first | refine ar_region (id := 5) tt_ok (inps := [.elem (Tr.eI (l.getD i 0)), .elem (Tr.eI ((l.take i ++ List.replicate (l.length - i) 0).getD i 0))]) rfl ?_ ?_ | refine ar_region tt_ok (inps := []) rfl ?_ ?_); rotate_left; (try refine nrm ?_); rotate_right) | refine ret3 ?_ | refine end3 ?_) | (refine ar_cond rfl trivial ?_ ?_ <;> intro hc_ <;> (try simp only [isNilI, inB, reduceCtorEq, cds] at hc_) <;> (try (first | contradiction | (exfalso; omega)))) | refine ar_until (And.intro ?_ (wk3 ?_)))
  all_goals (first | refine ar_id ?_ | (try (focus ((try refine nrmO ?_); (repeat' (first | exact True.intro | refine And.intro ?_ ?_)); all_goals (try (intro (hg_ : _ = true); (try simp only [isNilI, inB, reduceCtorEq, cds] at hg_); (repeat' (first | exact True.intro | refine And.intro ?_ ?_)))); all_goals (first | exact ob1 | skip)))))
  · exact to_set (E := Tr.eI) (by omega)
  · rw [show i = l.length by omega, List.take_length, Nat.sub_self]; rw [show List.replicate 0 (0 : Int) = [] from rfl, List.append_nil]
  · rw [Nat.sub_zero, show l.take 0 = [] from rfl, List.nil_append, List.map_replicate]; rfl
def c_eqI (l : List Int) : CFD := ⟨30, [.one (ro 3 1 Tr.eI l), .one (ro 3 1 Tr.eI l)], [], (TV.sv (.one (.lit (.bool (true))))), [], [], []⟩
theorem fn_eqI (l : List Int) (hl : l.length ≤ 1048576) : Fn Tryz.prog (c_eqI l) := by
  refine fn_intro tt_ok Tryz.func30 rfl Tryz.call30 Tryz.ntmps30 Tryz.results30 rfl rfl rfl rfl ?_
  intro X ρ0 hb_ hgl_
  dsimp only [c_eqI]
  try refine nrm ?_
  repeat' (refine ar_id ?_; first | refine st1 ?_ | (first | ((first | refine ar_region tt_ok (inps := []) rfl ?_ ?_); rotate_left; (try refine nrm ?_); rotate_right) | refine ret3 ?_ | refine end3 ?_) | (refine ar_cond rfl trivial ?_ ?_ <;> intro hc_ <;> (try simp only [isNilI, inB, reduceCtorEq, cds] at hc_) <;> (try (first | contradiction | (exfalso; omega)))) | refine ar_until (And.intro ?_ (wk3 ?_)))
  all_goals (first | refine ar_id ?_ | (try (focus ((try refine nrmO ?_); (repeat' (first | exact True.intro | refine And.intro ?_ ?_)); all_goals (try (intro (hg_ : _ = true); (try simp only [isNilI, inB, reduceCtorEq, cds] at hg_); (repeat' (first | exact True.intro | refine And.intro ?_ ?_)))); all_goals (first | exact ob1 | skip)))))
  refine ar_keep 51 (by dsimp only [keepS] <;> exact rfl) ?_
  refine ar_forM (l.length) (fun i => True) (fun i => [(5, (TV.sv (.one (.lit (.int .i64 (i))))))]) (fun i => []) ?_ ?_ ?_
  rotate_left
  · first | trivial | simp
  (dsimp only [rnCap, capSVs, Int.toNat_natCast, ro, Nat.reduceAdd, Nat.reduceMul, Nat.zero_add, List.map, putT, app, wrapG, gOb, argT, keys, slotOf, dropped, gAnd, wB, rnT, rnS, rnC, rnCs, rnSs, rnM, rnB, rnN, rn, lk, St.over, ded, delL, keepT, menT, menSs, menS, menCs, menC, hasN, resT, SV.cells]; refine wk3 ?_; (focus ((try refine nrmO ?_); (repeat' (first | exact True.intro | refine And.intro ?_ ?_)); all_goals (try (intro (hg_ : _ = true); (try simp only [isNilI, inB, reduceCtorEq, cds] at hg_); (repeat' (first | exact True.intro | refine And.intro ?_ ?_)))); all_goals (first | exact ob1 | exact rfl | skip))))
  rotate_right
  intro i hi_ hiI_
  dsimp only [rnCap, capSVs, Int.toNat_natCast, ro, Nat.reduceAdd, Nat.reduceMul, Nat.zero_add, List.map, putT, app, wrapG, gOb, argT, keys, slotOf, dropped, gAnd, wB, rnT, rnS, rnC, rnCs, rnSs, rnM, rnB, rnN, rn, lk, St.over, ded, delL, keepT, menT, menSs, menS, menCs, menC, hasN, resT, SV.cells]
  repeat' (refine ar_id ?_; first | refine st1 ?_ | (refine ar_drawS (id := 6) tt_ok (by kernel_rfl) [.elem (Tr.eI (l.getD i 0)), .elem (Tr.eI (l.getD i 0))] ?_; refine ed_hide ?_; intro K_ hK_; repeat' (first | ((first | refine ed_call3 ?_ | refine ed_sure3 ?_ | refine ed_cons3 ?_); refine ed_hide ?_; intro K_ hK_; (try refine nrmE ?_)) | (refine ed_nil ?_; (repeat subst hK_); dsimp only; refine Exists.intro _ (And.intro rfl (And.intro (by kernel_rfl) (And.intro ?_ ?_))); rotate_left; (try refine nrm ?_); rotate_right))) | (first | ((first | refine ar_region tt_ok (inps := []) rfl ?_ ?_); rotate_left; (try refine nrm ?_); rotate_right) | refine ret3 ?_ | refine end3 ?_) | (refine ar_cond rfl trivial ?_ ?_ <;> intro hc_ <;> (try simp only [isNilI, inB, reduceCtorEq, cds] at hc_) <;> (try (first | contradiction | (exfalso; omega)))) | refine ar_until (And.intro ?_ (wk3 ?_)))
  all_goals (first | refine ar_id ?_ | (try (focus ((try refine nrmO ?_); (repeat' (first | exact True.intro | refine And.intro ?_ ?_)); all_goals (try (intro (hg_ : _ = true); (try simp only [isNilI, inB, reduceCtorEq, cds] at hg_); (repeat' (first | exact True.intro | refine And.intro ?_ ?_)))); all_goals (first | exact ob1 | skip)))))
def c_markI (l : List Int) (k : Nat) : CFD := ⟨34, [.one (.hd 0), (SV.one (.lit (.int .i64 ((k : Int)))))], [(0, some (.row 3 1 (l.map Tr.eI)))], (TV.sv (.one (.lit (.int .i64 (((k + l.length : Nat) : Int)))))), [(0, some (.row 3 1 ((mkI k l.length).map Tr.eI)))], [], []⟩
theorem fn_markI (l : List Int) (k : Nat) (hl : l.length ≤ 1048576) (hk : k ≤ 1000000000) : Fn Tryz.prog (c_markI l k) := by
  refine fn_intro tt_ok Tryz.func34 rfl Tryz.call34 Tryz.ntmps34 Tryz.results34 rfl rfl rfl rfl ?_
  intro X ρ0 hb_ hgl_
  dsimp only [c_markI]
  try refine nrm ?_
  repeat' (refine ar_id ?_; first | refine st1 ?_ | (first | ((first | refine ar_region tt_ok (inps := []) rfl ?_ ?_); rotate_left; (try refine nrm ?_); rotate_right) | refine ret3 ?_ | refine end3 ?_) | (refine ar_cond rfl trivial ?_ ?_ <;> intro hc_ <;> (try simp only [isNilI, inB, reduceCtorEq, cds] at hc_) <;> (try (first | contradiction | (exfalso; omega)))) | refine ar_until (And.intro ?_ (wk3 ?_)))
  all_goals (first | refine ar_id ?_ | (try (focus ((try refine nrmO ?_); (repeat' (first | exact True.intro | refine And.intro ?_ ?_)); all_goals (try (intro (hg_ : _ = true); (try simp only [isNilI, inB, reduceCtorEq, cds] at hg_); (repeat' (first | exact True.intro | refine And.intro ?_ ?_)))); all_goals (first | exact ob1 | skip)))))
  refine ar_keep 51 (by dsimp only [keepS] <;> exact rfl) ?_
  refine ar_forM (l.length) (fun i => True) (fun i => [(5, (TV.sv (.one (.lit (.int .i64 (i)))))), (1, (TV.sv (.one (.lit (.int .i64 (((k + i : Nat) : Int))))))), (0, (TV.sv (.one (.hd 0))))]) (fun i => [(0, some (.row 3 1 ((mkI k i ++ l.drop i).map Tr.eI)))]) ?_ ?_ ?_
  rotate_left
  · first | trivial | simp
  (dsimp only [rnCap, capSVs, Int.toNat_natCast, ro, Nat.reduceAdd, Nat.reduceMul, Nat.zero_add, List.map, putT, app, wrapG, gOb, argT, keys, slotOf, dropped, gAnd, wB, rnT, rnS, rnC, rnCs, rnSs, rnM, rnB, rnN, rn, lk, St.over, ded, delL, keepT, menT, menSs, menS, menCs, menC, hasN, resT, SV.cells]; refine wk3 ?_; (focus ((try refine nrmO ?_); (repeat' (first | exact True.intro | refine And.intro ?_ ?_)); all_goals (try (intro (hg_ : _ = true); (try simp only [isNilI, inB, reduceCtorEq, cds] at hg_); (repeat' (first | exact True.intro | refine And.intro ?_ ?_)))); all_goals (first | exact ob1 | exact rfl | skip))))
  rotate_right
  intro i hi_ hiI_
  dsimp only [rnCap, capSVs, Int.toNat_natCast, ro, Nat.reduceAdd, Nat.reduceMul, Nat.zero_add, List.map, putT, app, wrapG, gOb, argT, keys, slotOf, dropped, gAnd, wB, rnT, rnS, rnC, rnCs, rnSs, rnM, rnB, rnN, rn, lk, St.over, ded, delL, keepT, menT, menSs, menS, menCs, menC, hasN, resT, SV.cells]
  have hlen : i ≤ l.length → (mkI k i ++ l.drop i).length = l.length := fun h => by rw [List.length_append, mkI_len, List.length_drop]; omega
  repeat' (refine ar_id ?_; first | refine st1 ?_ | (refine ar_drawS (id := 4) tt_ok (by kernel_rfl) [.elem (Tr.eI ((mkI k i ++ l.drop i).getD i 0))] ?_; refine ed_hide ?_; intro K_ hK_; repeat' (first | ((first | refine ed_call3 ?_ | refine ed_sure3 ?_ | refine ed_cons3 ?_); refine ed_hide ?_; intro K_ hK_; (try refine nrmE ?_)) | (refine ed_nil ?_; (repeat subst hK_); dsimp only; refine Exists.intro _ (And.intro rfl (And.intro (by kernel_rfl) (And.intro ?_ ?_))); rotate_left; (try refine nrm ?_); rotate_right))) | (first | ((first | refine ar_region (id := 4) tt_ok (inps := [.elem (Tr.eI ((mkI k i ++ l.drop i).getD i 0))]) rfl ?_ ?_ | refine ar_region tt_ok (inps := []) rfl ?_ ?_); rotate_left; (try refine nrm ?_); rotate_right) | refine ret3 ?_ | refine end3 ?_) | (refine ar_cond rfl trivial ?_ ?_ <;> intro hc_ <;> (try simp only [isNilI, inB, reduceCtorEq, cds] at hc_) <;> (try (first | contradiction | (exfalso; omega)))) | refine ar_until (And.intro ?_ (wk3 ?_)))
  all_goals (first | refine ar_id ?_ | (try (focus ((try refine nrmO ?_); (repeat' (first | exact True.intro | refine And.intro ?_ ?_)); all_goals (try (intro (hg_ : _ = true); (try simp only [isNilI, inB, reduceCtorEq, cds] at hg_); (repeat' (first | exact True.intro | refine And.intro ?_ ?_)))); all_goals (first | exact ob1 | exact map_at (by rw [hlen (by omega)]; omega) | skip)))))
  · exact mkI_set (by have := hlen (by omega); omega)
  · have := hlen (by omega)
    rw [show i = l.length by omega, List.drop_length, List.append_nil]
def c_heldI (n k : Nat) : CFD := ⟨74, [.one (ro 3 1 Tr.eI (mkI k n)), (SV.one (.lit (.int .i64 ((k : Int)))))], [], (TV.sv (.one (.lit (.int .i64 (((k + n : Nat) : Int)))))), [], [], []⟩
theorem fn_heldI (n k : Nat) (hl : n ≤ 1048576) (hk : k ≤ 1000000000) : Fn Tryz.prog (c_heldI n k) := by
  have hln := mkI_len k n
  refine fn_intro tt_ok Tryz.func74 rfl Tryz.call74 Tryz.ntmps74 Tryz.results74 rfl rfl rfl rfl ?_
  intro X ρ0 hb_ hgl_
  dsimp only [c_heldI]
  try refine nrm ?_
  repeat' (refine ar_id ?_; first | refine st1 ?_ | (first | ((first | refine ar_region tt_ok (inps := []) rfl ?_ ?_); rotate_left; (try refine nrm ?_); rotate_right) | refine ret3 ?_ | refine end3 ?_) | (refine ar_cond rfl trivial ?_ ?_ <;> intro hc_ <;> (try simp only [isNilI, inB, reduceCtorEq, cds] at hc_) <;> (try (first | contradiction | (exfalso; omega)))) | refine ar_until (And.intro ?_ (wk3 ?_)))
  all_goals (first | refine ar_id ?_ | (try (focus ((try refine nrmO ?_); (repeat' (first | exact True.intro | refine And.intro ?_ ?_)); all_goals (try (intro (hg_ : _ = true); (try simp only [isNilI, inB, reduceCtorEq, cds] at hg_); (repeat' (first | exact True.intro | refine And.intro ?_ ?_)))); all_goals (first | exact ob1 | skip)))))
  refine ar_keep 51 (by dsimp only [keepS] <;> exact rfl) ?_
  refine ar_forM (n) (fun i => True) (fun i => [(5, (TV.sv (.one (.lit (.int .i64 (i)))))), (1, (TV.sv (.one (.lit (.int .i64 (((k + i : Nat) : Int)))))))]) (fun i => []) ?_ ?_ ?_
  rotate_left
  · first | trivial | simp
  (dsimp only [rnCap, capSVs, Int.toNat_natCast, ro, Nat.reduceAdd, Nat.reduceMul, Nat.zero_add, List.map, putT, app, wrapG, gOb, argT, keys, slotOf, dropped, gAnd, wB, rnT, rnS, rnC, rnCs, rnSs, rnM, rnB, rnN, rn, lk, St.over, ded, delL, keepT, menT, menSs, menS, menCs, menC, hasN, resT, SV.cells]; refine wk3 ?_; (focus ((try refine nrmO ?_); (repeat' (first | exact True.intro | refine And.intro ?_ ?_)); all_goals (try (intro (hg_ : _ = true); (try simp only [isNilI, inB, reduceCtorEq, cds] at hg_); (repeat' (first | exact True.intro | refine And.intro ?_ ?_)))); all_goals (first | exact ob1 | exact rfl | skip))))
  rotate_right
  intro i hi_ hiI_
  dsimp only [rnCap, capSVs, Int.toNat_natCast, ro, Nat.reduceAdd, Nat.reduceMul, Nat.zero_add, List.map, putT, app, wrapG, gOb, argT, keys, slotOf, dropped, gAnd, wB, rnT, rnS, rnC, rnCs, rnSs, rnM, rnB, rnN, rn, lk, St.over, ded, delL, keepT, menT, menSs, menS, menCs, menC, hasN, resT, SV.cells]
  have hm : i < n → (mkI k n).getD i 0 = ((k + i : Nat) : Int) := fun h => mkI_at h
  repeat' (refine ar_id ?_; first | refine st1 ?_ | (first | ((first | refine ar_region (id := 4) tt_ok (inps := [.elem (Tr.eI ((mkI k n).getD i 0))]) rfl ?_ ?_ | refine ar_region tt_ok (inps := []) rfl ?_ ?_); rotate_left; (try refine nrm ?_); rotate_right) | refine ret3 ?_ | refine end3 ?_) | (refine ar_cond rfl trivial ?_ ?_ <;> intro hc_ <;> (try simp only [isNilI, inB, reduceCtorEq, cds] at hc_) <;> (try (first | contradiction | (exfalso; omega)))) | refine ar_until (And.intro ?_ (wk3 ?_)))
  all_goals (first | refine ar_id ?_ | (try (focus ((try refine nrmO ?_); (repeat' (first | exact True.intro | refine And.intro ?_ ?_)); all_goals (try (intro (hg_ : _ = true); (try simp only [isNilI, inB, reduceCtorEq, cds] at hg_); (repeat' (first | exact True.intro | refine And.intro ?_ ?_)))); all_goals (first | exact ob1 | skip)))))
end Eng
end Go.Proofs.YtabnglcabpijfaaGreatDoor
namespace Go.Proofs.YtabnglcabpijfaaGreatDoor
open Go.RowKit
set_option linter.unusedVariables false
set_option linter.unusedSimpArgs false
set_option maxRecDepth 100000
namespace Eng
open Tr
/-- rows with marks from k on -/
def mkII : Nat → List (List Int) → List (List Int)
  | _, [] => []
  | k, r :: l => mkI k r.length :: mkII (k + r.length) l
def cntII : List (List Int) → Nat
  | [] => 0
  | r :: l => r.length + cntII l
theorem mkII_len : ∀ (k : Nat) (l : List (List Int)), (mkII k l).length = l.length
  | _, [] => rfl
  | k, r :: l => by show (mkII _ l).length + 1 = l.length + 1; rw [mkII_len]
theorem cntII_app : ∀ (a b : List (List Int)), cntII (a ++ b) = cntII a + cntII b
  | [], b => by rw [List.nil_append]; show _ = 0 + _; omega
  | r :: a, b => by show r.length + cntII (a ++ b) = r.length + cntII a + cntII b; rw [cntII_app a b]; omega
theorem mkII_app : ∀ (k : Nat) (a b : List (List Int)), mkII k (a ++ b) = mkII k a ++ mkII (k + cntII a) b
  | k, [], b => by rw [List.nil_append]; rfl
  | k, r :: a, b => by
    show mkI k r.length :: mkII (k + r.length) (a ++ b) = mkI k r.length :: (mkII (k + r.length) a ++ mkII (k + (r.length + cntII a)) b)
    rw [mkII_app (k + r.length) a b, Nat.add_assoc]
theorem cntII_take (l : List (List Int)) {i : Nat} (hi : i < l.length) : cntII (l.take (i + 1)) = cntII (l.take i) + (l.getD i []).length := by
  rw [take_getD l [] hi, cntII_app]; rfl
theorem mkII_take (k : Nat) (l : List (List Int)) {i : Nat} (hi : i < l.length) : mkII k (l.take (i + 1)) = mkII k (l.take i) ++ [mkI (k + cntII (l.take i)) (l.getD i []).length] := by
  rw [take_getD l [] hi, mkII_app]; rfl
theorem cntII_le (l : List (List Int)) : ∀ i, cntII (l.take i) ≤ cntII l
  | i => by
    have h : cntII (l.take i ++ l.drop i) = _ := cntII_app _ _
    rw [List.take_append_drop] at h
    rw [h]; exact Nat.le_add_right _ _
/-- truth values with marks -/
def mkB (k n : Nat) : List Bool := (List.range n).map fun i => decide ((k + i) % 3 = 0)
theorem mkB_len (k n : Nat) : (mkB k n).length = n := by unfold mkB; rw [List.length_map, List.length_range]
theorem mkB_at {k n i : Nat} (h : i < n) : (mkB k n).getD i false = decide ((k + i) % 3 = 0) := by
  unfold mkB
  rw [List.getD_eq_getElem?_getD, List.getElem?_map, List.getElem?_range h]
  rfl
theorem mkB_succ (k n : Nat) : mkB k (n + 1) = mkB k n ++ [decide ((k + n) % 3 = 0)] := by unfold mkB; rw [List.range_succ, List.map_append]; rfl
theorem mkB_set {l : List Bool} {k i : Nat} (hi : i < l.length) : ((mkB k i ++ l.drop i).map Tr.eB).set i (Tr.eB (decide ((k + i) % 3 = 0))) = (mkB k (i + 1) ++ l.drop (i + 1)).map Tr.eB := by
  rw [← List.map_set, mid_set _ _ _ (mkB_len k i) (by rw [mkB_len, List.length_drop]; omega), mkB_succ, List.drop_drop, Nat.add_comm i 1]
def enD : GEntry := ⟨0, 0⟩
/-- entries with marks -/
def mkE (k n : Nat) : List GEntry := (List.range n).map fun i => ⟨((k + 2 * i : Nat) : Int), ((k + 2 * i + 1 : Nat) : Int)⟩
theorem mkE_len (k n : Nat) : (mkE k n).length = n := by unfold mkE; rw [List.length_map, List.length_range]
theorem mkE_at {k n i : Nat} (h : i < n) : (mkE k n).getD i enD = ⟨((k + 2 * i : Nat) : Int), ((k + 2 * i + 1 : Nat) : Int)⟩ := by
  unfold mkE
  rw [List.getD_eq_getElem?_getD, List.getElem?_map, List.getElem?_range h]
  rfl
theorem mkE_succ (k n : Nat) : mkE k (n + 1) = mkE k n ++ [⟨((k + 2 * n : Nat) : Int), ((k + 2 * n + 1 : Nat) : Int)⟩] := by unfold mkE; rw [List.range_succ, List.map_append]; rfl
theorem mkE_set {l : List GEntry} {k i : Nat} (hi : i < l.length) : ((mkE k i ++ l.drop i).map eEntry).set i (eEntry ⟨((k + 2 * i : Nat) : Int), ((k + 2 * i + 1 : Nat) : Int)⟩) = (mkE k (i + 1) ++ l.drop (i + 1)).map eEntry := by
  rw [← List.map_set, mid_set _ _ _ (mkE_len k i) (by rw [mkE_len, List.length_drop]; omega), mkE_succ, List.drop_drop, Nat.add_comm i 1]
theorem raw_max2 {w : World} {T T2 k : Nat} {l : List (List Int)} {v : Value} (h : Raw w (rowD T k (fun r => rowD T2 1 eI r) l) [v]) : ∀ r ∈ l, r.length ≤ 9223372036854775807 := by
  obtain ⟨_, _, _, _, h⟩ := h
  rcases h with ⟨_, h, _⟩ | ⟨_, cap, us, _, _, _, _, _, hc⟩
  · rw [List.length_map] at h
    intro r hr
    rw [List.length_eq_zero_iff.1 h] at hr
    cases hr
  · intro r hr
    obtain ⟨i, hi, rfl⟩ := List.getElem_of_mem hr
    have hk : ∀ d ∈ l.map (fun r => rowD T2 1 eI r), d.len = 1 := fun d hd => by
      obtain ⟨x, _, rfl⟩ := List.mem_map.1 hd; rfl
    have hr := raw_cat 1 _ hk hc i (by rw [List.length_map]; exact hi)
    rw [List.getElem_map] at hr
    obtain ⟨x, hx⟩ : ∃ x, ((us.drop (i * 1)).take 1) = [x] := by
      have h1 := raw_len _ hr
      have h2 : (rowD T2 1 eI l[i]).len = 1 := rfl
      rw [h2] at h1
      exact List.length_eq_one_iff.1 h1
    rw [hx] at hr
    exact raw_max hr
def c_toB (l : List Bool) : CFD := ⟨148, [.one (ro 4 1 Tr.eB l)], [], .sv (.one (.hd 0)), [(0, some (.row 4 1 (l.map Tr.eB)))], [0], []⟩
theorem fn_toB (l : List Bool) (hl : l.length ≤ 1048576) : Fn Tryz.prog (c_toB l) := by
  refine fn_intro tt_ok Tryz.func148 rfl Tryz.call148 Tryz.ntmps148 Tryz.results148 rfl rfl rfl rfl ?_
  intro X ρ0 hb_ hgl_
  dsimp only [c_toB]
  try refine nrm ?_
  repeat' (refine ar_id ?_; first | refine st1 ?_ | (first | ((first | refine ar_region tt_ok (inps := []) rfl ?_ ?_); rotate_left; (try refine nrm ?_); rotate_right) | refine ret3 ?_ | refine end3 ?_) | (refine ar_cond rfl trivial ?_ ?_ <;> intro hc_ <;> (try simp only [isNilI, inB, reduceCtorEq, cds] at hc_) <;> (try (first | contradiction | (exfalso; omega)))) | refine ar_until (And.intro ?_ (wk3 ?_)))
  all_goals (first | refine ar_id ?_ | (try (focus ((try refine nrmO ?_); (repeat' (first | exact True.intro | refine And.intro ?_ ?_)); all_goals (try (intro (hg_ : _ = true); (try simp only [isNilI, inB, reduceCtorEq, cds] at hg_); (repeat' (first | exact True.intro | refine And.intro ?_ ?_)))); all_goals (first | exact ob1 | skip)))))
  refine ar_keep 29 (by dsimp only [keepS] <;> exact rfl) ?_
  refine ar_forM (l.length) (fun i => True) (fun i => [(4, (TV.sv (.one (.lit (.int .i64 (i)))))), (3, (TV.sv (.one (.hd 7))))]) (fun i => [(7, some (.row 4 1 ((l.take i ++ List.replicate (l.length - i) false).map Tr.eB)))]) ?_ ?_ ?_
  rotate_left
  · first | trivial | simp
  (dsimp only [rnCap, capSVs, Int.toNat_natCast, ro, Nat.reduceAdd, Nat.reduceMul, Nat.zero_add, List.map, putT, app, wrapG, gOb, argT, keys, slotOf, dropped, gAnd, wB, rnT, rnS, rnC, rnCs, rnSs, rnM, rnB, rnN, rn, lk, St.over, ded, delL, keepT, menT, menSs, menS, menCs, menC, hasN, resT, SV.cells]; refine wk3 ?_; (focus ((try refine nrmO ?_); (repeat' (first | exact True.intro | refine And.intro ?_ ?_)); all_goals (try (intro (hg_ : _ = true); (try simp only [isNilI, inB, reduceCtorEq, cds] at hg_); (repeat' (first | exact True.intro | refine And.intro ?_ ?_)))); all_goals (first | exact ob1 | exact rfl | skip))))
  rotate_right
  intro i hi_ hiI_
  dsimp only [rnCap, capSVs, Int.toNat_natCast, ro, Nat.reduceAdd, Nat.reduceMul, Nat.zero_add, List.map, putT, app, wrapG, gOb, argT, keys, slotOf, dropped, gAnd, wB, rnT, rnS, rnC, rnCs, rnSs, rnM, rnB, rnN, rn, lk, St.over, ded, delL, keepT, menT, menSs, menS, menCs, menC, hasN, resT, SV.cells]
  have hlen : (l.take i ++ List.replicate (l.length - i) false).length = l.length := by rw [List.length_append, List.length_take, List.length_replicate]; omega
  repeat' (refine ar_id ?_; first | refine st1 ?_ | (refine ar_drawS (id := 5) tt_ok (by kernel_rfl) [.elem (Tr.eB (l.getD i false)), .elem (Tr.eB ((l.take i ++ List.replicate (l.length - i) false).getD i false))] ?_; refine ed_hide ?_; intro K_ hK_; repeat' (first | ((first | refine ed_call3 ?_ | refine ed_sure3 ?_ | refine ed_cons3 ?_); refine ed_hide ?_; intro K_ hK_; (try refine nrmE ?_)) | (refine ed_nil ?_; (repeat subst hK_); dsimp only; refine Exists.intro _ (And.intro rfl (And.intro (by kernel_rfl) (And.intro ?_ ?_))); rotate_left; (try refine nrm ?_); rotate_right))) | (first | ((first | refine ar_region (id := 5) tt_ok (inps := [.elem (Tr.eB (l.getD i false)), .elem (Tr.eB ((l.take i ++ List.replicate (l.length - i) false).getD i false))]) rfl ?_ ?_ | refine ar_region tt_ok (inps := []) rfl ?_ ?_); rotate_left; (try refine nrm ?_); rotate_right) | refine ret3 ?_ | refine end3 ?_) | (refine ar_cond rfl trivial ?_ ?_ <;> intro hc_ <;> (try simp only [isNilI, inB, reduceCtorEq, cds] at hc_) <;> (try (first | contradiction | (exfalso; omega)))) | refine ar_until (And.intro ?_ (wk3 ?_)))
  all_goals (first | refine ar_id ?_ | (try (focus ((try refine nrmO ?_); (repeat' (first | exact True.intro | refine And.intro ?_ ?_)); all_goals (try (intro (hg_ : _ = true); (try simp only [isNilI, inB, reduceCtorEq, cds] at hg_); (repeat' (first | exact True.intro | refine And.intro ?_ ?_)))); all_goals (first | exact ob1 | skip)))))
  · exact to_set (E := Tr.eB) (by omega)
  · rw [show i = l.length by omega, List.take_length, Nat.sub_self]; rw [show List.replicate 0 false = [] from rfl, List.append_nil]
  · rw [Nat.sub_zero, show l.take 0 = [] from rfl, List.nil_append, List.map_replicate]; rfl
def c_eqB (l : List Bool) : CFD := ⟨151, [.one (ro 4 1 Tr.eB l), .one (ro 4 1 Tr.eB l)], [], (TV.sv (.one (.lit (.bool (true))))), [], [], []⟩
theorem fn_eqB (l : List Bool) (hl : l.length ≤ 1048576) : Fn Tryz.prog (c_eqB l) := by
  have hne : ∀ b : Bool, (b != b) = false := fun b => by cases b <;> rfl
  refine fn_intro tt_ok Tryz.func151 rfl Tryz.call151 Tryz.ntmps151 Tryz.results151 rfl rfl rfl rfl ?_
  intro X ρ0 hb_ hgl_
  dsimp only [c_eqB]
  try refine nrm ?_
  repeat' (refine ar_id ?_; first | refine st1 ?_ | (first | ((first | refine ar_region tt_ok (inps := []) rfl ?_ ?_); rotate_left; (try refine nrm ?_); rotate_right) | refine ret3 ?_ | refine end3 ?_) | (refine ar_cond rfl trivial ?_ ?_ <;> intro hc_ <;> (try simp only [isNilI, inB, reduceCtorEq, cds] at hc_) <;> (try (first | contradiction | (exfalso; omega)))) | refine ar_until (And.intro ?_ (wk3 ?_)))
  all_goals (first | refine ar_id ?_ | (try (focus ((try refine nrmO ?_); (repeat' (first | exact True.intro | refine And.intro ?_ ?_)); all_goals (try (intro (hg_ : _ = true); (try simp only [isNilI, inB, reduceCtorEq, cds] at hg_); (repeat' (first | exact True.intro | refine And.intro ?_ ?_)))); all_goals (first | exact ob1 | skip)))))
  refine ar_keep 51 (by dsimp only [keepS] <;> exact rfl) ?_
  refine ar_forM (l.length) (fun i => True) (fun i => [(5, (TV.sv (.one (.lit (.int .i64 (i))))))]) (fun i => []) ?_ ?_ ?_
  rotate_left
  · first | trivial | simp
  (dsimp only [rnCap, capSVs, Int.toNat_natCast, ro, Nat.reduceAdd, Nat.reduceMul, Nat.zero_add, List.map, putT, app, wrapG, gOb, argT, keys, slotOf, dropped, gAnd, wB, rnT, rnS, rnC, rnCs, rnSs, rnM, rnB, rnN, rn, lk, St.over, ded, delL, keepT, menT, menSs, menS, menCs, menC, hasN, resT, SV.cells]; refine wk3 ?_; (focus ((try refine nrmO ?_); (repeat' (first | exact True.intro | refine And.intro ?_ ?_)); all_goals (try (intro (hg_ : _ = true); (try simp only [isNilI, inB, reduceCtorEq, cds] at hg_); (repeat' (first | exact True.intro | refine And.intro ?_ ?_)))); all_goals (first | exact ob1 | exact rfl | skip))))
  rotate_right
  intro i hi_ hiI_
  dsimp only [rnCap, capSVs, Int.toNat_natCast, ro, Nat.reduceAdd, Nat.reduceMul, Nat.zero_add, List.map, putT, app, wrapG, gOb, argT, keys, slotOf, dropped, gAnd, wB, rnT, rnS, rnC, rnCs, rnSs, rnM, rnB, rnN, rn, lk, St.over, ded, delL, keepT, menT, menSs, menS, menCs, menC, hasN, resT, SV.cells]
  repeat' (refine ar_id ?_; first | refine st1 ?_ | (refine ar_drawS (id := 6) tt_ok (by kernel_rfl) [.elem (Tr.eB (l.getD i false)), .elem (Tr.eB (l.getD i false))] ?_; refine ed_hide ?_; intro K_ hK_; repeat' (first | ((first | refine ed_call3 ?_ | refine ed_sure3 ?_ | refine ed_cons3 ?_); refine ed_hide ?_; intro K_ hK_; (try refine nrmE ?_)) | (refine ed_nil ?_; (repeat subst hK_); dsimp only; refine Exists.intro _ (And.intro rfl (And.intro (by kernel_rfl) (And.intro ?_ ?_))); rotate_left; (try refine nrm ?_); rotate_right))) | (first | ((first | refine ar_region tt_ok (inps := []) rfl ?_ ?_); rotate_left; (try refine nrm ?_); rotate_right) | refine ret3 ?_ | refine end3 ?_) | (refine ar_cond rfl trivial ?_ ?_ <;> intro hc_ <;> (try simp only [isNilI, inB, reduceCtorEq, cds] at hc_) <;> (try (first | contradiction | (exfalso; omega) | (exfalso; (rw [hne] at hc_; cases hc_))))) | refine ar_until (And.intro ?_ (wk3 ?_)))
  all_goals (first | refine ar_id ?_ | (try (focus ((try refine nrmO ?_); (repeat' (first | exact True.intro | refine And.intro ?_ ?_)); all_goals (try (intro (hg_ : _ = true); (try simp only [isNilI, inB, reduceCtorEq, cds] at hg_); (repeat' (first | exact True.intro | refine And.intro ?_ ?_)))); all_goals (first | exact ob1 | exact rfl | skip)))))
def c_markB (l : List Bool) (k : Nat) : CFD := ⟨154, [.one (.hd 0), (SV.one (.lit (.int .i64 ((k : Int)))))], [(0, some (.row 4 1 (l.map Tr.eB)))], (TV.sv (.one (.lit (.int .i64 (((k + l.length : Nat) : Int)))))), [(0, some (.row 4 1 ((mkB k l.length).map Tr.eB)))], [], []⟩
theorem mod3 (n : Nat) : (((n : Nat) : Int).tmod 3 == 0) = decide (n % 3 = 0) := by
  rw [Int.tmod_eq_emod_of_nonneg (by omega), Bool.eq_iff_iff, beq_iff_eq, decide_eq_true_eq]
  omega
theorem fn_markB (l : List Bool) (k : Nat) (hl : l.length ≤ 1048576) (hk : k ≤ 1000000000) : Fn Tryz.prog (c_markB l k) := by
  refine fn_intro tt_ok Tryz.func154 rfl Tryz.call154 Tryz.ntmps154 Tryz.results154 rfl rfl rfl rfl ?_
  intro X ρ0 hb_ hgl_
  dsimp only [c_markB]
  try refine nrm ?_
  repeat' (refine ar_id ?_; first | refine st1 ?_ | (first | ((first | refine ar_region tt_ok (inps := []) rfl ?_ ?_); rotate_left; (try refine nrm ?_); rotate_right) | refine ret3 ?_ | refine end3 ?_) | (refine ar_cond rfl trivial ?_ ?_ <;> intro hc_ <;> (try simp only [isNilI, inB, reduceCtorEq, cds] at hc_) <;> (try (first | contradiction | (exfalso; omega)))) | refine ar_until (And.intro ?_ (wk3 ?_)))
  all_goals (first | refine ar_id ?_ | (try (focus ((try refine nrmO ?_); (repeat' (first | exact True.intro | refine And.intro ?_ ?_)); all_goals (try (intro (hg_ : _ = true); (try simp only [isNilI, inB, reduceCtorEq, cds] at hg_); (repeat' (first | exact True.intro | refine And.intro ?_ ?_)))); all_goals (first | exact ob1 | skip)))))
  refine ar_keep 51 (by dsimp only [keepS] <;> exact rfl) ?_
  refine ar_forM (l.length) (fun i => True) (fun i => [(5, (TV.sv (.one (.lit (.int .i64 (i)))))), (1, (TV.sv (.one (.lit (.int .i64 (((k + i : Nat) : Int))))))), (0, (TV.sv (.one (.hd 0))))]) (fun i => [(0, some (.row 4 1 ((mkB k i ++ l.drop i).map Tr.eB)))]) ?_ ?_ ?_
  rotate_left
  · first | trivial | simp
  (dsimp only [rnCap, capSVs, Int.toNat_natCast, ro, Nat.reduceAdd, Nat.reduceMul, Nat.zero_add, List.map, putT, app, wrapG, gOb, argT, keys, slotOf, dropped, gAnd, wB, rnT, rnS, rnC, rnCs, rnSs, rnM, rnB, rnN, rn, lk, St.over, ded, delL, keepT, menT, menSs, menS, menCs, menC, hasN, resT, SV.cells]; refine wk3 ?_; (focus ((try refine nrmO ?_); (repeat' (first | exact True.intro | refine And.intro ?_ ?_)); all_goals (try (intro (hg_ : _ = true); (try simp only [isNilI, inB, reduceCtorEq, cds] at hg_); (repeat' (first | exact True.intro | refine And.intro ?_ ?_)))); all_goals (first | exact ob1 | exact rfl | skip))))
  rotate_right
  intro i hi_ hiI_
  dsimp only [rnCap, capSVs, Int.toNat_natCast, ro, Nat.reduceAdd, Nat.reduceMul, Nat.zero_add, List.map, putT, app, wrapG, gOb, argT, keys, slotOf, dropped, gAnd, wB, rnT, rnS, rnC, rnCs, rnSs, rnM, rnB, rnN, rn, lk, St.over, ded, delL, keepT, menT, menSs, menS, menCs, menC, hasN, resT, SV.cells]
  have hlen : i ≤ l.length → (mkB k i ++ l.drop i).length = l.length := fun h => by rw [List.length_append, mkB_len, List.length_drop]; omega
  have ht : inK .i64 (((k + i : Nat) : Int).tmod 3) := by rw [Int.tmod_eq_emod_of_nonneg (by omega)]; exact i64_ok (by omega) (by omega)
  repeat' (refine ar_id ?_; first | refine st1 ?_ | (refine ar_drawS (id := 4) tt_ok (by kernel_rfl) [.elem (Tr.eB ((mkB k i ++ l.drop i).getD i false))] ?_; refine ed_hide ?_; intro K_ hK_; repeat' (first | ((first | refine ed_call3 ?_ | refine ed_sure3 ?_ | refine ed_cons3 ?_); refine ed_hide ?_; intro K_ hK_; (try refine nrmE ?_)) | (refine ed_nil ?_; (repeat subst hK_); dsimp only; refine Exists.intro _ (And.intro rfl (And.intro (by kernel_rfl) (And.intro ?_ ?_))); rotate_left; (try refine nrm ?_); rotate_right))) | (first | ((first | refine ar_region (id := 4) tt_ok (inps := [.elem (Tr.eB ((mkB k i ++ l.drop i).getD i false))]) rfl ?_ ?_ | refine ar_region tt_ok (inps := []) rfl ?_ ?_); rotate_left; (try refine nrm ?_); rotate_right) | refine ret3 ?_ | refine end3 ?_) | (refine ar_cond rfl trivial ?_ ?_ <;> intro hc_ <;> (try simp only [isNilI, inB, reduceCtorEq, cds] at hc_) <;> (try (first | contradiction | (exfalso; omega)))) | refine ar_until (And.intro ?_ (wk3 ?_)))
  all_goals (first | refine ar_id ?_ | (try (focus ((try refine nrmO ?_); (repeat' (first | exact True.intro | refine And.intro ?_ ?_)); all_goals (try (intro (hg_ : _ = true); (try simp only [isNilI, inB, reduceCtorEq, cds] at hg_); (repeat' (first | exact True.intro | refine And.intro ?_ ?_)))); all_goals (first | exact ob1 | exact ht | exact map_at (by rw [hlen (by omega)]; omega) | skip)))))
  · rw [mod3]
    exact mkB_set (by have := hlen (by omega); omega)
  · have := hlen (by omega)
    rw [show i = l.length by omega, List.drop_length, List.append_nil]
def c_heldB (n k : Nat) : CFD := ⟨157, [.one (ro 4 1 Tr.eB (mkB k n)), (SV.one (.lit (.int .i64 ((k : Int)))))], [], (TV.sv (.one (.lit (.int .i64 (((k + n : Nat) : Int)))))), [], [], []⟩
theorem fn_heldB (n k : Nat) (hl : n ≤ 1048576) (hk : k ≤ 1000000000) : Fn Tryz.prog (c_heldB n k) := by
  have hln := mkB_len k n
  refine fn_intro tt_ok Tryz.func157 rfl Tryz.call157 Tryz.ntmps157 Tryz.results157 rfl rfl rfl rfl ?_
  intro X ρ0 hb_ hgl_
  dsimp only [c_heldB]
  try refine nrm ?_
  repeat' (refine ar_id ?_; first | refine st1 ?_ | (first | ((first | refine ar_region tt_ok (inps := []) rfl ?_ ?_); rotate_left; (try refine nrm ?_); rotate_right) | refine ret3 ?_ | refine end3 ?_) | (refine ar_cond rfl trivial ?_ ?_ <;> intro hc_ <;> (try simp only [isNilI, inB, reduceCtorEq, cds] at hc_) <;> (try (first | contradiction | (exfalso; omega)))) | refine ar_until (And.intro ?_ (wk3 ?_)))
  all_goals (first | refine ar_id ?_ | (try (focus ((try refine nrmO ?_); (repeat' (first | exact True.intro | refine And.intro ?_ ?_)); all_goals (try (intro (hg_ : _ = true); (try simp only [isNilI, inB, reduceCtorEq, cds] at hg_); (repeat' (first | exact True.intro | refine And.intro ?_ ?_)))); all_goals (first | exact ob1 | skip)))))
  refine ar_keep 51 (by dsimp only [keepS] <;> exact rfl) ?_
  refine ar_forM (n) (fun i => True) (fun i => [(5, (TV.sv (.one (.lit (.int .i64 (i)))))), (1, (TV.sv (.one (.lit (.int .i64 (((k + i : Nat) : Int)))))))]) (fun i => []) ?_ ?_ ?_
  rotate_left
  · first | trivial | simp
  (dsimp only [rnCap, capSVs, Int.toNat_natCast, ro, Nat.reduceAdd, Nat.reduceMul, Nat.zero_add, List.map, putT, app, wrapG, gOb, argT, keys, slotOf, dropped, gAnd, wB, rnT, rnS, rnC, rnCs, rnSs, rnM, rnB, rnN, rn, lk, St.over, ded, delL, keepT, menT, menSs, menS, menCs, menC, hasN, resT, SV.cells]; refine wk3 ?_; (focus ((try refine nrmO ?_); (repeat' (first | exact True.intro | refine And.intro ?_ ?_)); all_goals (try (intro (hg_ : _ = true); (try simp only [isNilI, inB, reduceCtorEq, cds] at hg_); (repeat' (first | exact True.intro | refine And.intro ?_ ?_)))); all_goals (first | exact ob1 | exact rfl | skip))))
  rotate_right
  intro i hi_ hiI_
  dsimp only [rnCap, capSVs, Int.toNat_natCast, ro, Nat.reduceAdd, Nat.reduceMul, Nat.zero_add, List.map, putT, app, wrapG, gOb, argT, keys, slotOf, dropped, gAnd, wB, rnT, rnS, rnC, rnCs, rnSs, rnM, rnB, rnN, rn, lk, St.over, ded, delL, keepT, menT, menSs, menS, menCs, menC, hasN, resT, SV.cells]
  have hm : i < n → ((mkB k n).getD i false != (((k + i : Nat) : Int).tmod 3 == 0)) = false := fun h => by rw [mkB_at h, mod3]; simp
  have ht : inK .i64 (((k + i : Nat) : Int).tmod 3) := by rw [Int.tmod_eq_emod_of_nonneg (by omega)]; exact i64_ok (by omega) (by omega)
  repeat' (refine ar_id ?_; first | refine st1 ?_ | (first | ((first | refine ar_region (id := 4) tt_ok (inps := [.elem (Tr.eB ((mkB k n).getD i false))]) rfl ?_ ?_ | refine ar_region tt_ok (inps := []) rfl ?_ ?_); rotate_left; (try refine nrm ?_); rotate_right) | refine ret3 ?_ | refine end3 ?_) | (refine ar_cond rfl trivial ?_ ?_ <;> intro hc_ <;> (try simp only [isNilI, inB, reduceCtorEq, cds] at hc_) <;> (try (first | contradiction | (exfalso; omega) | (exfalso; (rw [hm (by omega)] at hc_; cases hc_))))) | refine ar_until (And.intro ?_ (wk3 ?_)))
  all_goals (first | refine ar_id ?_ | (try (focus ((try refine nrmO ?_); (repeat' (first | exact True.intro | refine And.intro ?_ ?_)); all_goals (try (intro (hg_ : _ = true); (try simp only [isNilI, inB, reduceCtorEq, cds] at hg_); (repeat' (first | exact True.intro | refine And.intro ?_ ?_)))); all_goals (first | exact ob1 | exact ht | skip)))))
  exact absurd (by have := hm (by omega); simpa using this) hc_
def c_toE (e : GEntry) : CFD := ⟨168, [.agg [(CV.lit (.int .i64 (e.Mode))), (CV.lit (.int .i64 (e.Frame)))]], [], .sv (.agg [(CV.lit (.int .i64 (e.Mode))), (CV.lit (.int .i64 (e.Frame)))]), [], [], []⟩
theorem fn_toE (e : GEntry) : Fn Tryz.prog (c_toE e) := by
  refine fn_intro tt_ok Tryz.func168 rfl Tryz.call168 Tryz.ntmps168 Tryz.results168 rfl rfl rfl rfl ?_
  intro X ρ0 hb_ hgl_
  dsimp only [c_toE]
  try refine nrm ?_
  repeat' (refine ar_id ?_; first | refine st1 ?_ | (first | ((first | refine ar_region tt_ok (inps := []) rfl ?_ ?_); rotate_left; (try refine nrm ?_); rotate_right) | refine ret3 ?_ | refine end3 ?_) | (refine ar_cond rfl trivial ?_ ?_ <;> intro hc_ <;> (try simp only [isNilI, inB, reduceCtorEq, cds] at hc_) <;> (try (first | contradiction | (exfalso; omega)))) | refine ar_until (And.intro ?_ (wk3 ?_)))
  all_goals (first | refine ar_id ?_ | (try (focus ((try refine nrmO ?_); (repeat' (first | exact True.intro | refine And.intro ?_ ?_)); all_goals (try (intro (hg_ : _ = true); (try simp only [isNilI, inB, reduceCtorEq, cds] at hg_); (repeat' (first | exact True.intro | refine And.intro ?_ ?_)))); all_goals (first | exact ob1 | skip)))))
def c_toES (l : List GEntry) : CFD := ⟨149, [.one (ro 201 2 eEntry l)], [], .sv (.one (.hd 0)), [(0, some (.row 42 2 (l.map eEntry)))], [0], []⟩
theorem fn_toES (l : List GEntry) (hl : l.length ≤ 1048576) : Fn Tryz.prog (c_toES l) := by
  refine fn_intro tt_ok Tryz.func149 rfl Tryz.call149 Tryz.ntmps149 Tryz.results149 rfl rfl rfl rfl ?_
  intro X ρ0 hb_ hgl_
  dsimp only [c_toES]
  try refine nrm ?_
  repeat' (refine ar_id ?_; first | refine st1 ?_ | (first | ((first | refine ar_region tt_ok (inps := []) rfl ?_ ?_); rotate_left; (try refine nrm ?_); rotate_right) | refine ret3 ?_ | refine end3 ?_) | (refine ar_cond rfl trivial ?_ ?_ <;> intro hc_ <;> (try simp only [isNilI, inB, reduceCtorEq, cds] at hc_) <;> (try (first | contradiction | (exfalso; omega)))) | refine ar_until (And.intro ?_ (wk3 ?_)))
  all_goals (first | refine ar_id ?_ | (try (focus ((try refine nrmO ?_); (repeat' (first | exact True.intro | refine And.intro ?_ ?_)); all_goals (try (intro (hg_ : _ = true); (try simp only [isNilI, inB, reduceCtorEq, cds] at hg_); (repeat' (first | exact True.intro | refine And.intro ?_ ?_)))); all_goals (first | exact ob1 | skip)))))
  refine ar_keep 29 (by dsimp only [keepS] <;> exact rfl) ?_
  refine ar_forM (l.length) (fun i => True) (fun i => [(4, (TV.sv (.one (.lit (.int .i64 (i)))))), (3, (TV.sv (.one (.hd 7))))]) (fun i => [(7, some (.row 42 2 ((l.take i ++ List.replicate (l.length - i) enD).map eEntry)))]) ?_ ?_ ?_
  rotate_left
  · first | trivial | simp
  (dsimp only [rnCap, capSVs, Int.toNat_natCast, ro, Nat.reduceAdd, Nat.reduceMul, Nat.zero_add, List.map, putT, app, wrapG, gOb, argT, keys, slotOf, dropped, gAnd, wB, rnT, rnS, rnC, rnCs, rnSs, rnM, rnB, rnN, rn, lk, St.over, ded, delL, keepT, menT, menSs, menS, menCs, menC, hasN, resT, SV.cells]; refine wk3 ?_; (focus ((try refine nrmO ?_); (repeat' (first | exact True.intro | refine And.intro ?_ ?_)); all_goals (try (intro (hg_ : _ = true); (try simp only [isNilI, inB, reduceCtorEq, cds] at hg_); (repeat' (first | exact True.intro | refine And.intro ?_ ?_)))); all_goals (first | exact ob1 | exact rfl | skip))))
  rotate_right
  intro i hi_ hiI_
  dsimp only [rnCap, capSVs, Int.toNat_natCast, ro, Nat.reduceAdd, Nat.reduceMul, Nat.zero_add, List.map, putT, app, wrapG, gOb, argT, keys, slotOf, dropped, gAnd, wB, rnT, rnS, rnC, rnCs, rnSs, rnM, rnB, rnN, rn, lk, St.over, ded, delL, keepT, menT, menSs, menS, menCs, menC, hasN, resT, SV.cells]
  have hlen : (l.take i ++ List.replicate (l.length - i) enD).length = l.length := by rw [List.length_append, List.length_take, List.length_replicate]; omega
  repeat' (refine ar_id ?_; first | refine st1 ?_ | (refine ar_drawS (id := 5) tt_ok (by kernel_rfl) [.elem (eEntry (l.getD i enD)), .call (c_toE (l.getD i enD)), .elem (eEntry ((l.take i ++ List.replicate (l.length - i) enD).getD i enD))] ?_; refine ed_hide ?_; intro K_ hK_; repeat' (first | ((first | refine ed_call3 ?_ | refine ed_sure3 ?_ | refine ed_cons3 ?_); refine ed_hide ?_; intro K_ hK_; (try dsimp only [c_toE]); (try refine nrmE ?_)) | (refine ed_nil ?_; (repeat subst hK_); dsimp only; refine Exists.intro _ (And.intro rfl (And.intro (by kernel_rfl) (And.intro ?_ ?_))); rotate_left; (try dsimp only [c_toE]); (try refine nrm ?_); rotate_right))) | (first | ((first | refine ar_region (id := 5) tt_ok (inps := [.elem (eEntry (l.getD i enD)), .call (c_toE (l.getD i enD)), .elem (eEntry ((l.take i ++ List.replicate (l.length - i) enD).getD i enD))]) rfl ?_ ?_ | refine ar_region tt_ok (inps := []) rfl ?_ ?_); rotate_left; (try dsimp only [c_toE]); (try refine nrm ?_); rotate_right) | refine ret3 ?_ | refine end3 ?_) | (refine ar_cond rfl trivial ?_ ?_ <;> intro hc_ <;> (try simp only [isNilI, inB, reduceCtorEq, cds] at hc_) <;> (try (first | contradiction | (exfalso; omega)))) | refine ar_until (And.intro ?_ (wk3 ?_)))
  all_goals (first | refine ar_id ?_ | (try (focus ((try refine nrmO ?_); (repeat' (first | exact True.intro | refine And.intro ?_ ?_)); all_goals (try (intro (hg_ : _ = true); (try simp only [isNilI, inB, reduceCtorEq, cds] at hg_); (repeat' (first | exact True.intro | refine And.intro ?_ ?_)))); all_goals (first | exact ob1 | exact fn_toE _ | skip)))))
  · exact to_set (E := eEntry) (by omega)
  · rw [show i = l.length by omega, List.take_length, Nat.sub_self]; rw [show List.replicate 0 enD = [] from rfl, List.append_nil]
  · rw [Nat.sub_zero, show l.take 0 = [] from rfl, List.nil_append, List.map_replicate]; rfl
def c_eqE (e : GEntry) : CFD := ⟨169, [.agg [(CV.lit (.int .i64 (e.Mode))), (CV.lit (.int .i64 (e.Frame)))], .agg [(CV.lit (.int .i64 (e.Mode))), (CV.lit (.int .i64 (e.Frame)))]], [], (TV.sv (.one (.lit (.bool (true))))), [], [], []⟩
theorem fn_eqE (e : GEntry) : Fn Tryz.prog (c_eqE e) := by
  refine fn_intro tt_ok Tryz.func169 rfl Tryz.call169 Tryz.ntmps169 Tryz.results169 rfl rfl rfl rfl ?_
  intro X ρ0 hb_ hgl_
  dsimp only [c_eqE]
  try refine nrm ?_
  repeat' (refine ar_id ?_; first | refine st1 ?_ | (first | ((first | refine ar_region tt_ok (inps := []) rfl ?_ ?_); rotate_left; (try refine nrm ?_); rotate_right) | refine ret3 ?_ | refine end3 ?_) | (refine ar_cond rfl trivial ?_ ?_ <;> intro hc_ <;> (try simp only [isNilI, inB, reduceCtorEq, cds] at hc_) <;> (try (first | contradiction | (exfalso; omega)))) | refine ar_until (And.intro ?_ (wk3 ?_)))
  all_goals (first | refine ar_id ?_ | (try (focus ((try refine nrmO ?_); (repeat' (first | exact True.intro | refine And.intro ?_ ?_)); all_goals (try (intro (hg_ : _ = true); (try simp only [isNilI, inB, reduceCtorEq, cds] at hg_); (repeat' (first | exact True.intro | refine And.intro ?_ ?_)))); all_goals (first | exact ob1 | skip)))))
def c_eqES (l : List GEntry) : CFD := ⟨152, [.one (ro 42 2 eEntry l), .one (ro 42 2 eEntry l)], [], (TV.sv (.one (.lit (.bool (true))))), [], [], []⟩
theorem fn_eqES (l : List GEntry) (hl : l.length ≤ 1048576) : Fn Tryz.prog (c_eqES l) := by
  refine fn_intro tt_ok Tryz.func152 rfl Tryz.call152 Tryz.ntmps152 Tryz.results152 rfl rfl rfl rfl ?_
  intro X ρ0 hb_ hgl_
  dsimp only [c_eqES]
  try refine nrm ?_
  repeat' (refine ar_id ?_; first | refine st1 ?_ | (first | ((first | refine ar_region tt_ok (inps := []) rfl ?_ ?_); rotate_left; (try refine nrm ?_); rotate_right) | refine ret3 ?_ | refine end3 ?_) | (refine ar_cond rfl trivial ?_ ?_ <;> intro hc_ <;> (try simp only [isNilI, inB, reduceCtorEq, cds] at hc_) <;> (try (first | contradiction | (exfalso; omega)))) | refine ar_until (And.intro ?_ (wk3 ?_)))
  all_goals (first | refine ar_id ?_ | (try (focus ((try refine nrmO ?_); (repeat' (first | exact True.intro | refine And.intro ?_ ?_)); all_goals (try (intro (hg_ : _ = true); (try simp only [isNilI, inB, reduceCtorEq, cds] at hg_); (repeat' (first | exact True.intro | refine And.intro ?_ ?_)))); all_goals (first | exact ob1 | skip)))))
  refine ar_keep 51 (by dsimp only [keepS] <;> exact rfl) ?_
  refine ar_forM (l.length) (fun i => True) (fun i => [(5, (TV.sv (.one (.lit (.int .i64 (i))))))]) (fun i => []) ?_ ?_ ?_
  rotate_left
  · first | trivial | simp
  (dsimp only [rnCap, capSVs, Int.toNat_natCast, ro, Nat.reduceAdd, Nat.reduceMul, Nat.zero_add, List.map, putT, app, wrapG, gOb, argT, keys, slotOf, dropped, gAnd, wB, rnT, rnS, rnC, rnCs, rnSs, rnM, rnB, rnN, rn, lk, St.over, ded, delL, keepT, menT, menSs, menS, menCs, menC, hasN, resT, SV.cells]; refine wk3 ?_; (focus ((try refine nrmO ?_); (repeat' (first | exact True.intro | refine And.intro ?_ ?_)); all_goals (try (intro (hg_ : _ = true); (try simp only [isNilI, inB, reduceCtorEq, cds] at hg_); (repeat' (first | exact True.intro | refine And.intro ?_ ?_)))); all_goals (first | exact ob1 | exact rfl | skip))))
  rotate_right
  intro i hi_ hiI_
  dsimp only [rnCap, capSVs, Int.toNat_natCast, ro, Nat.reduceAdd, Nat.reduceMul, Nat.zero_add, List.map, putT, app, wrapG, gOb, argT, keys, slotOf, dropped, gAnd, wB, rnT, rnS, rnC, rnCs, rnSs, rnM, rnB, rnN, rn, lk, St.over, ded, delL, keepT, menT, menSs, menS, menCs, menC, hasN, resT, SV.cells]
  repeat' (refine ar_id ?_; first | refine st1 ?_ | (refine ar_drawS (id := 6) tt_ok (by kernel_rfl) [.elem (eEntry (l.getD i enD)), .elem (eEntry (l.getD i enD)), .call (c_eqE (l.getD i enD))] ?_; refine ed_hide ?_; intro K_ hK_; repeat' (first | ((first | refine ed_call3 ?_ | refine ed_sure3 ?_ | refine ed_cons3 ?_); refine ed_hide ?_; intro K_ hK_; (try dsimp only [c_eqE]); (try refine nrmE ?_)) | (refine ed_nil ?_; (repeat subst hK_); dsimp only; refine Exists.intro _ (And.intro rfl (And.intro (by kernel_rfl) (And.intro ?_ ?_))); rotate_left; (try dsimp only [c_eqE]); (try refine nrm ?_); rotate_right))) | (first | ((first | refine ar_region tt_ok (inps := []) rfl ?_ ?_); rotate_left; (try dsimp only [c_eqE]); (try refine nrm ?_); rotate_right) | refine ret3 ?_ | refine end3 ?_) | (refine ar_cond rfl trivial ?_ ?_ <;> intro hc_ <;> (try simp only [isNilI, inB, reduceCtorEq, cds] at hc_) <;> (try (first | contradiction | (exfalso; omega)))) | refine ar_until (And.intro ?_ (wk3 ?_)))
  all_goals (first | refine ar_id ?_ | (try (focus ((try refine nrmO ?_); (repeat' (first | exact True.intro | refine And.intro ?_ ?_)); all_goals (try (intro (hg_ : _ = true); (try simp only [isNilI, inB, reduceCtorEq, cds] at hg_); (repeat' (first | exact True.intro | refine And.intro ?_ ?_)))); all_goals (first | exact ob1 | exact fn_eqE _ | skip)))))
  all_goals trace_state
def c_markES (l : List GEntry) (k : Nat) : CFD := ⟨155, [.one (.hd 0), (SV.one (.lit (.int .i64 ((k : Int)))))], [(0, some (.row 42 2 (l.map eEntry)))], (TV.sv (.one (.lit (.int .i64 (((k + 2 * l.length : Nat) : Int)))))), [(0, some (.row 42 2 ((mkE k l.length).map eEntry)))], [], []⟩
theorem fn_markES (l : List GEntry) (k : Nat) (hl : l.length ≤ 1048576) (hk : k ≤ 1000000000) : Fn Tryz.prog (c_markES l k) := by
  refine fn_intro tt_ok Tryz.func155 rfl Tryz.call155 Tryz.ntmps155 Tryz.results155 rfl rfl rfl rfl ?_
  intro X ρ0 hb_ hgl_
  dsimp only [c_markES]
  try refine nrm ?_
  repeat' (refine ar_id ?_; first | refine st1 ?_ | (first | ((first | refine ar_region tt_ok (inps := []) rfl ?_ ?_); rotate_left; (try refine nrm ?_); rotate_right) | refine ret3 ?_ | refine end3 ?_) | (refine ar_cond rfl trivial ?_ ?_ <;> intro hc_ <;> (try simp only [isNilI, inB, reduceCtorEq, cds] at hc_) <;> (try (first | contradiction | (exfalso; omega)))) | refine ar_until (And.intro ?_ (wk3 ?_)))
  all_goals (first | refine ar_id ?_ | (try (focus ((try refine nrmO ?_); (repeat' (first | exact True.intro | refine And.intro ?_ ?_)); all_goals (try (intro (hg_ : _ = true); (try simp only [isNilI, inB, reduceCtorEq, cds] at hg_); (repeat' (first | exact True.intro | refine And.intro ?_ ?_)))); all_goals (first | exact ob1 | skip)))))
  refine ar_keep 51 (by dsimp only [keepS] <;> exact rfl) ?_
  refine ar_forM (l.length) (fun i => True) (fun i => [(5, (TV.sv (.one (.lit (.int .i64 (i)))))), (1, (TV.sv (.one (.lit (.int .i64 (((k + 2 * i : Nat) : Int))))))), (0, (TV.sv (.one (.hd 0))))]) (fun i => [(0, some (.row 42 2 ((mkE k i ++ l.drop i).map eEntry)))]) ?_ ?_ ?_
  rotate_left
  · first | trivial | simp
  (dsimp only [rnCap, capSVs, Int.toNat_natCast, ro, Nat.reduceAdd, Nat.reduceMul, Nat.zero_add, List.map, putT, app, wrapG, gOb, argT, keys, slotOf, dropped, gAnd, wB, rnT, rnS, rnC, rnCs, rnSs, rnM, rnB, rnN, rn, lk, St.over, ded, delL, keepT, menT, menSs, menS, menCs, menC, hasN, resT, SV.cells]; refine wk3 ?_; (focus ((try refine nrmO ?_); (repeat' (first | exact True.intro | refine And.intro ?_ ?_)); all_goals (try (intro (hg_ : _ = true); (try simp only [isNilI, inB, reduceCtorEq, cds] at hg_); (repeat' (first | exact True.intro | refine And.intro ?_ ?_)))); all_goals (first | exact ob1 | exact rfl | skip))))
  rotate_right
  intro i hi_ hiI_
  dsimp only [rnCap, capSVs, Int.toNat_natCast, ro, Nat.reduceAdd, Nat.reduceMul, Nat.zero_add, List.map, putT, app, wrapG, gOb, argT, keys, slotOf, dropped, gAnd, wB, rnT, rnS, rnC, rnCs, rnSs, rnM, rnB, rnN, rn, lk, St.over, ded, delL, keepT, menT, menSs, menS, menCs, menC, hasN, resT, SV.cells]
  have hlen : i ≤ l.length → (mkE k i ++ l.drop i).length = l.length := fun h => by rw [List.length_append, mkE_len, List.length_drop]; omega
  obtain ⟨e, he⟩ : ∃ e, (mkE k i ++ l.drop i).getD i enD = e := ⟨_, rfl⟩
  repeat' (refine ar_id ?_; first | refine st1 ?_ | (first | ((first | refine ar_region (id := 4) tt_ok (inps := [.elem (eEntry e)]) rfl ?_ ?_ | refine ar_region (id := 6) tt_ok (inps := [.elem (eEntry ⟨((k + 2 * i : Nat) : Int), e.Frame⟩)]) rfl ?_ ?_ | refine ar_region tt_ok (inps := []) rfl ?_ ?_); rotate_left; (try refine nrm ?_); rotate_right) | refine ret3 ?_ | refine end3 ?_) | (refine ar_cond rfl trivial ?_ ?_ <;> intro hc_ <;> (try simp only [isNilI, inB, reduceCtorEq, cds] at hc_) <;> (try (first | contradiction | (exfalso; omega)))) | refine ar_until (And.intro ?_ (wk3 ?_)))
  all_goals (first | refine ar_id ?_ | (try (focus ((try refine nrmO ?_); (repeat' (first | exact True.intro | refine And.intro ?_ ?_)); all_goals (try (intro (hg_ : _ = true); (try simp only [isNilI, inB, reduceCtorEq, cds] at hg_); (repeat' (first | exact True.intro | refine And.intro ?_ ?_)))); all_goals (first | exact ob1 | exact (he ▸ map_at (by rw [hlen (by omega)]; omega)) | skip)))))
  · show 0 + 0 + 1 ≤ 2; omega
  · rw [List.length_set, List.length_map]; exact hc_
  · rw [Int.toNat_natCast, List.getElem?_set_self (by rw [List.length_map]; omega)]; rfl
  · rw [List.set_set]
    exact mkE_set (by have := hlen (by omega); omega)
  · have := hlen (by omega)
    rw [show i = l.length by omega, List.drop_length, List.append_nil]
def c_heldES (n k : Nat) : CFD := ⟨158, [.one (ro 42 2 eEntry (mkE k n)), (SV.one (.lit (.int .i64 ((k : Int)))))], [], (TV.sv (.one (.lit (.int .i64 (((k + 2 * n : Nat) : Int)))))), [], [], []⟩
theorem fn_heldES (n k : Nat) (hl : n ≤ 1048576) (hk : k ≤ 1000000000) : Fn Tryz.prog (c_heldES n k) := by
  have hln := mkE_len k n
  refine fn_intro tt_ok Tryz.func158 rfl Tryz.call158 Tryz.ntmps158 Tryz.results158 rfl rfl rfl rfl ?_
  intro X ρ0 hb_ hgl_
  dsimp only [c_heldES]
  try refine nrm ?_
  repeat' (refine ar_id ?_; first | refine st1 ?_ | (first | ((first | refine ar_region tt_ok (inps := []) rfl ?_ ?_); rotate_left; (try refine nrm ?_); rotate_right) | refine ret3 ?_ | refine end3 ?_) | (refine ar_cond rfl trivial ?_ ?_ <;> intro hc_ <;> (try simp only [isNilI, inB, reduceCtorEq, cds] at hc_) <;> (try (first | contradiction | (exfalso; omega)))) | refine ar_until (And.intro ?_ (wk3 ?_)))
  all_goals (first | refine ar_id ?_ | (try (focus ((try refine nrmO ?_); (repeat' (first | exact True.intro | refine And.intro ?_ ?_)); all_goals (try (intro (hg_ : _ = true); (try simp only [isNilI, inB, reduceCtorEq, cds] at hg_); (repeat' (first | exact True.intro | refine And.intro ?_ ?_)))); all_goals (first | exact ob1 | skip)))))
  refine ar_keep 51 (by dsimp only [keepS] <;> exact rfl) ?_
  refine ar_forM (n) (fun i => True) (fun i => [(5, (TV.sv (.one (.lit (.int .i64 (i)))))), (1, (TV.sv (.one (.lit (.int .i64 (((k + 2 * i : Nat) : Int)))))))]) (fun i => []) ?_ ?_ ?_
  rotate_left
  · first | trivial | simp
  (dsimp only [rnCap, capSVs, Int.toNat_natCast, ro, Nat.reduceAdd, Nat.reduceMul, Nat.zero_add, List.map, putT, app, wrapG, gOb, argT, keys, slotOf, dropped, gAnd, wB, rnT, rnS, rnC, rnCs, rnSs, rnM, rnB, rnN, rn, lk, St.over, ded, delL, keepT, menT, menSs, menS, menCs, menC, hasN, resT, SV.cells]; refine wk3 ?_; (focus ((try refine nrmO ?_); (repeat' (first | exact True.intro | refine And.intro ?_ ?_)); all_goals (try (intro (hg_ : _ = true); (try simp only [isNilI, inB, reduceCtorEq, cds] at hg_); (repeat' (first | exact True.intro | refine And.intro ?_ ?_)))); all_goals (first | exact ob1 | exact rfl | skip))))
  rotate_right
  intro i hi_ hiI_
  dsimp only [rnCap, capSVs, Int.toNat_natCast, ro, Nat.reduceAdd, Nat.reduceMul, Nat.zero_add, List.map, putT, app, wrapG, gOb, argT, keys, slotOf, dropped, gAnd, wB, rnT, rnS, rnC, rnCs, rnSs, rnM, rnB, rnN, rn, lk, St.over, ded, delL, keepT, menT, menSs, menS, menCs, menC, hasN, resT, SV.cells]
  have hm : i < n → (mkE k n).getD i enD = ⟨((k + 2 * i : Nat) : Int), ((k + 2 * i + 1 : Nat) : Int)⟩ := fun h => mkE_at h
  have hm1 : i < n → ((mkE k n).getD i enD).Mode = ((k + 2 * i : Nat) : Int) := fun h => by rw [hm h]
  have hm2 : i < n → ((mkE k n).getD i enD).Frame = ((k + 2 * i + 1 : Nat) : Int) := fun h => by rw [hm h]
  repeat' (refine ar_id ?_; first | refine st1 ?_ | (first | ((first | refine ar_region (id := 4) tt_ok (inps := [.elem (eEntry ((mkE k n).getD i enD))]) rfl ?_ ?_ | refine ar_region (id := 7) tt_ok (inps := [.elem (eEntry ((mkE k n).getD i enD))]) rfl ?_ ?_ | refine ar_region tt_ok (inps := []) rfl ?_ ?_); rotate_left; (try refine nrm ?_); rotate_right) | refine ret3 ?_ | refine end3 ?_) | (refine ar_cond rfl trivial ?_ ?_ <;> intro hc_ <;> (try simp only [isNilI, inB, reduceCtorEq, cds] at hc_) <;> (try (first | contradiction | (exfalso; omega)))) | refine ar_until (And.intro ?_ (wk3 ?_)))
  all_goals (first | refine ar_id ?_ | (try (focus ((try refine nrmO ?_); (repeat' (first | exact True.intro | refine And.intro ?_ ?_)); all_goals (try (intro (hg_ : _ = true); (try simp only [isNilI, inB, reduceCtorEq, cds] at hg_); (repeat' (first | exact True.intro | refine And.intro ?_ ?_)))); all_goals (first | exact ob1 | skip)))))
  all_goals trace_state
end Eng
end Go.Proofs.YtabnglcabpijfaaGreatDoor
namespace Go.Proofs.YtabnglcabpijfaaGreatDoor
open Go.RowKit
set_option linter.unusedVariables false
set_option linter.unusedSimpArgs false
set_option maxRecDepth 100000
namespace Eng
open Tr
theorem ii_set {α : Type} {E : α → D} {l : List α} {z : D} {d : α} {i : Nat} (hi : i < l.length) : ((l.take i).map E ++ List.replicate (l.length - i) z).set i (E (l.getD i d)) = (l.take (i + 1)).map E ++ List.replicate (l.length - (i + 1)) z := by
  have hl : ((l.take i).map E).length = i := by rw [List.length_map, List.length_take]; omega
  rw [mid_set _ _ _ hl (by rw [hl, List.length_replicate]; omega), take_getD l d hi, List.map_append, List.drop_replicate, Nat.sub_sub]; rfl
theorem mkII_get {l : List (List Int)} {k i : Nat} (hi : i < l.length) : (mkII k l)[i]? = some (mkI (k + cntII (l.take i)) (l.getD i []).length) := by
  have h : mkII k (l.take (i + 1) ++ l.drop (i + 1)) = _ := mkII_app _ _ _
  rw [List.take_append_drop] at h
  have hl : (mkII k (l.take i)).length = i := by rw [mkII_len, List.length_take]; omega
  rw [h, mkII_take k l hi, List.append_assoc, List.getElem?_append_right (by omega), hl, Nat.sub_self]
  rfl
def c_toII (l : List (List Int)) : CFD := ⟨147, [.one (ro 33 1 eIntS l)], [], .sv (.one (.hd 0)), [(0, some (.row 33 1 (l.map eIntS)))], [0], []⟩
theorem fn_toII (l : List (List Int)) (hl : l.length ≤ 1048576) (hr : ∀ r ∈ l, r.length ≤ 1048576) : Fn Tryz.prog (c_toII l) := by
  refine fn_intro tt_ok Tryz.func147 rfl Tryz.call147 Tryz.ntmps147 Tryz.results147 rfl rfl rfl rfl ?_
  intro X ρ0 hb_ hgl_
  dsimp only [c_toII]
  try refine nrm ?_
  repeat' (refine ar_id ?_; first | refine st1 ?_ | (first | ((first | refine ar_region tt_ok (inps := []) rfl ?_ ?_); rotate_left; (try refine nrm ?_); rotate_right) | refine ret3 ?_ | refine end3 ?_) | (refine ar_cond rfl trivial ?_ ?_ <;> intro hc_ <;> (try simp only [isNilI, inB, reduceCtorEq, cds] at hc_) <;> (try (first | contradiction | (exfalso; omega)))) | refine ar_until (And.intro ?_ (wk3 ?_)))
  all_goals (first | refine ar_id ?_ | (try (focus ((try refine nrmO ?_); (repeat' (first | exact True.intro | refine And.intro ?_ ?_)); all_goals (try (intro (hg_ : _ = true); (try simp only [isNilI, inB, reduceCtorEq, cds] at hg_); (repeat' (first | exact True.intro | refine And.intro ?_ ?_)))); all_goals (first | exact ob1 | skip)))))
  refine ar_keep 29 (by dsimp only [keepS] <;> exact rfl) ?_
  refine ar_forM (l.length) (fun i => True) (fun i => [(4, (TV.sv (.one (.lit (.int .i64 (i)))))), (3, (TV.sv (.one (.hd 7))))]) (fun i => [(7, some (.row 33 1 ((l.take i).map eIntS ++ List.replicate (l.length - i) (dOf [.slice none 0 0]))))]) ?_ ?_ ?_
  rotate_left
  · first | trivial | simp
  (dsimp only [rnCap, capSVs, Int.toNat_natCast, ro, Nat.reduceAdd, Nat.reduceMul, Nat.zero_add, List.map, putT, app, wrapG, gOb, argT, keys, slotOf, dropped, gAnd, wB, rnT, rnS, rnC, rnCs, rnSs, rnM, rnB, rnN, rn, lk, St.over, ded, delL, keepT, menT, menSs, menS, menCs, menC, hasN, resT, SV.cells]; refine wk3 ?_; (focus ((try refine nrmO ?_); (repeat' (first | exact True.intro | refine And.intro ?_ ?_)); all_goals (try (intro (hg_ : _ = true); (try simp only [isNilI, inB, reduceCtorEq, cds] at hg_); (repeat' (first | exact True.intro | refine And.intro ?_ ?_)))); all_goals (first | exact ob1 | exact rfl | skip))))
  rotate_right
  intro i hi_ hiI_
  dsimp only [rnCap, capSVs, Int.toNat_natCast, ro, Nat.reduceAdd, Nat.reduceMul, Nat.zero_add, List.map, putT, app, wrapG, gOb, argT, keys, slotOf, dropped, gAnd, wB, rnT, rnS, rnC, rnCs, rnSs, rnM, rnB, rnN, rn, lk, St.over, ded, delL, keepT, menT, menSs, menS, menCs, menC, hasN, resT, SV.cells]
  repeat' (refine ar_id ?_; first | refine st1 ?_ | (refine ar_drawS (id := 5) tt_ok (by kernel_rfl) [.elem (eIntS (l.getD i [])), .call (c_toI (l.getD i [])), .elem (dOf [.slice none 0 0])] ?_; refine ed_hide ?_; intro K_ hK_; repeat' (first | ((first | refine ed_call3 ?_ | refine ed_sure3 ?_ | refine ed_cons3 ?_); refine ed_hide ?_; intro K_ hK_; (try dsimp only [c_toI]); (try refine nrmE ?_)) | (refine ed_nil ?_; (repeat subst hK_); dsimp only; refine Exists.intro _ (And.intro rfl (And.intro (by kernel_rfl) (And.intro ?_ ?_))); rotate_left; (try dsimp only [c_toI]); (try refine nrm ?_); rotate_right))) | (first | ((first | refine ar_region (id := 5) tt_ok (inps := [.elem (eIntS (l.getD i [])), .call (c_toI (l.getD i [])), .elem (dOf [.slice none 0 0])]) rfl ?_ ?_ | refine ar_region tt_ok (inps := []) rfl ?_ ?_); rotate_left; (try dsimp only [c_toI]); (try refine nrm ?_); rotate_right) | refine ret3 ?_ | refine end3 ?_) | (refine ar_cond rfl trivial ?_ ?_ <;> intro hc_ <;> (try simp only [isNilI, inB, reduceCtorEq, cds] at hc_) <;> (try (first | contradiction | (exfalso; omega)))) | refine ar_until (And.intro ?_ (wk3 ?_)))
  all_goals (first | refine ar_id ?_ | (try (focus ((try refine nrmO ?_); (repeat' (first | exact True.intro | refine And.intro ?_ ?_)); all_goals (try (intro (hg_ : _ = true); (try simp only [isNilI, inB, reduceCtorEq, cds] at hg_); (repeat' (first | exact True.intro | refine And.intro ?_ ?_)))); all_goals (first | exact ob1 | exact fn_toI _ (hr _ (getD_in (by omega))) | skip)))))
  · rw [Int.toNat_natCast]; exact Eng.fill_at _ _ _ (by omega)
  · exact ii_set (E := eIntS) (d := []) (by omega)
  · rw [show i = l.length by omega, List.take_length, Nat.sub_self]
    exact List.append_nil _
def c_eqII (l : List (List Int)) : CFD := ⟨150, [.one (ro 33 1 eIntS l), .one (ro 33 1 eIntS l)], [], (TV.sv (.one (.lit (.bool (true))))), [], [], []⟩
theorem fn_eqII (l : List (List Int)) (hl : l.length ≤ 1048576) (hr : ∀ r ∈ l, r.length ≤ 1048576) : Fn Tryz.prog (c_eqII l) := by
  refine fn_intro tt_ok Tryz.func150 rfl Tryz.call150 Tryz.ntmps150 Tryz.results150 rfl rfl rfl rfl ?_
  intro X ρ0 hb_ hgl_
  dsimp only [c_eqII]
  try refine nrm ?_
  repeat' (refine ar_id ?_; first | refine st1 ?_ | (first | ((first | refine ar_region tt_ok (inps := []) rfl ?_ ?_); rotate_left; (try refine nrm ?_); rotate_right) | refine ret3 ?_ | refine end3 ?_) | (refine ar_cond rfl trivial ?_ ?_ <;> intro hc_ <;> (try simp only [isNilI, inB, reduceCtorEq, cds] at hc_) <;> (try (first | contradiction | (exfalso; omega)))) | refine ar_until (And.intro ?_ (wk3 ?_)))
  all_goals (first | refine ar_id ?_ | (try (focus ((try refine nrmO ?_); (repeat' (first | exact True.intro | refine And.intro ?_ ?_)); all_goals (try (intro (hg_ : _ = true); (try simp only [isNilI, inB, reduceCtorEq, cds] at hg_); (repeat' (first | exact True.intro | refine And.intro ?_ ?_)))); all_goals (first | exact ob1 | skip)))))
  refine ar_keep 51 (by dsimp only [keepS] <;> exact rfl) ?_
  refine ar_forM (l.length) (fun i => True) (fun i => [(5, (TV.sv (.one (.lit (.int .i64 (i))))))]) (fun i => []) ?_ ?_ ?_
  rotate_left
  · first | trivial | simp
  (dsimp only [rnCap, capSVs, Int.toNat_natCast, ro, Nat.reduceAdd, Nat.reduceMul, Nat.zero_add, List.map, putT, app, wrapG, gOb, argT, keys, slotOf, dropped, gAnd, wB, rnT, rnS, rnC, rnCs, rnSs, rnM, rnB, rnN, rn, lk, St.over, ded, delL, keepT, menT, menSs, menS, menCs, menC, hasN, resT, SV.cells]; refine wk3 ?_; (focus ((try refine nrmO ?_); (repeat' (first | exact True.intro | refine And.intro ?_ ?_)); all_goals (try (intro (hg_ : _ = true); (try simp only [isNilI, inB, reduceCtorEq, cds] at hg_); (repeat' (first | exact True.intro | refine And.intro ?_ ?_)))); all_goals (first | exact ob1 | exact rfl | skip))))
  rotate_right
  intro i hi_ hiI_
  dsimp only [rnCap, capSVs, Int.toNat_natCast, ro, Nat.reduceAdd, Nat.reduceMul, Nat.zero_add, List.map, putT, app, wrapG, gOb, argT, keys, slotOf, dropped, gAnd, wB, rnT, rnS, rnC, rnCs, rnSs, rnM, rnB, rnN, rn, lk, St.over, ded, delL, keepT, menT, menSs, menS, menCs, menC, hasN, resT, SV.cells]
  repeat' (refine ar_id ?_; first | refine st1 ?_ | (refine ar_drawS (id := 6) tt_ok (by kernel_rfl) [.elem (eIntS (l.getD i [])), .elem (eIntS (l.getD i [])), .call (c_eqI (l.getD i []))] ?_; refine ed_hide ?_; intro K_ hK_; repeat' (first | ((first | refine ed_call3 ?_ | refine ed_sure3 ?_ | refine ed_cons3 ?_); refine ed_hide ?_; intro K_ hK_; (try dsimp only [c_eqI]); (try refine nrmE ?_)) | (refine ed_nil ?_; (repeat subst hK_); dsimp only; refine Exists.intro _ (And.intro rfl (And.intro (by kernel_rfl) (And.intro ?_ ?_))); rotate_left; (try dsimp only [c_eqI]); (try refine nrm ?_); rotate_right))) | (first | ((first | refine ar_region tt_ok (inps := []) rfl ?_ ?_); rotate_left; (try dsimp only [c_eqI]); (try refine nrm ?_); rotate_right) | refine ret3 ?_ | refine end3 ?_) | (refine ar_cond rfl trivial ?_ ?_ <;> intro hc_ <;> (try simp only [isNilI, inB, reduceCtorEq, cds] at hc_) <;> (try (first | contradiction | (exfalso; omega)))) | refine ar_until (And.intro ?_ (wk3 ?_)))
  all_goals (first | refine ar_id ?_ | (try (focus ((try refine nrmO ?_); (repeat' (first | exact True.intro | refine And.intro ?_ ?_)); all_goals (try (intro (hg_ : _ = true); (try simp only [isNilI, inB, reduceCtorEq, cds] at hg_); (repeat' (first | exact True.intro | refine And.intro ?_ ?_)))); all_goals (first | exact ob1 | exact fn_eqI _ (hr _ (getD_in (by omega))) | skip)))))
def c_markII (l : List (List Int)) (k : Nat) : CFD := ⟨153, [.one (.hd 0), (SV.one (.lit (.int .i64 ((k : Int)))))], [(0, some (.row 33 1 (l.map eIntS)))], (TV.sv (.one (.lit (.int .i64 (((k + cntII l : Nat) : Int)))))), [(0, some (.row 33 1 ((mkII k l).map eIntS)))], [], []⟩
theorem mkII_set {l : List (List Int)} {k i : Nat} (hi : i < l.length) : ((mkII k (l.take i) ++ l.drop i).map eIntS).set i (eIntS (mkI (k + cntII (l.take i)) (l.getD i []).length)) = (mkII k (l.take (i + 1)) ++ l.drop (i + 1)).map eIntS := by
  have hl : (mkII k (l.take i)).length = i := by rw [mkII_len, List.length_take]; omega
  rw [← List.map_set, mid_set _ _ _ hl (by rw [hl, List.length_drop]; omega), mkII_take k l hi, List.drop_drop, Nat.add_comm i 1]
theorem mkII_at {l : List (List Int)} {k i : Nat} (hi : i < l.length) : (mkII k (l.take i) ++ l.drop i).getD i [] = l.getD i [] := by
  have hl : (mkII k (l.take i)).length = i := by rw [mkII_len, List.length_take]; omega
  rw [List.getD_eq_getElem?_getD, List.getElem?_append_right (by omega), hl, Nat.sub_self, List.getElem?_drop, Nat.add_zero, ← List.getD_eq_getElem?_getD]
set_option maxHeartbeats 2000000 in
theorem fn_markII (l : List (List Int)) (k : Nat) (hl : l.length ≤ 1048576) (hr : ∀ r ∈ l, r.length ≤ 1048576) (hk : k + cntII l ≤ 1000000000) : Fn Tryz.prog (c_markII l k) := by
  refine fn_intro tt_ok Tryz.func153 rfl Tryz.call153 Tryz.ntmps153 Tryz.results153 rfl rfl rfl rfl ?_
  intro X ρ0 hb_ hgl_
  dsimp only [c_markII]
  try refine nrm ?_
  repeat' (refine ar_id ?_; first | refine st1 ?_ | (first | ((first | refine ar_region tt_ok (inps := []) rfl ?_ ?_); rotate_left; (try refine nrm ?_); rotate_right) | refine ret3 ?_ | refine end3 ?_) | (refine ar_cond rfl trivial ?_ ?_ <;> intro hc_ <;> (try simp only [isNilI, inB, reduceCtorEq, cds] at hc_) <;> (try (first | contradiction | (exfalso; omega)))) | refine ar_until (And.intro ?_ (wk3 ?_)))
  all_goals (first | refine ar_id ?_ | (try (focus ((try refine nrmO ?_); (repeat' (first | exact True.intro | refine And.intro ?_ ?_)); all_goals (try (intro (hg_ : _ = true); (try simp only [isNilI, inB, reduceCtorEq, cds] at hg_); (repeat' (first | exact True.intro | refine And.intro ?_ ?_)))); all_goals (first | exact ob1 | skip)))))
  refine ar_keep 51 (by dsimp only [keepS] <;> exact rfl) ?_
  refine ar_forM (l.length) (fun i => True) (fun i => [(5, (TV.sv (.one (.lit (.int .i64 (i)))))), (1, (TV.sv (.one (.lit (.int .i64 (((k + cntII (l.take i) : Nat) : Int))))))), (0, (TV.sv (.one (.hd 0))))]) (fun i => [(0, some (.row 33 1 ((mkII k (l.take i) ++ l.drop i).map eIntS)))]) ?_ ?_ ?_
  rotate_left
  · first | trivial | simp
  (dsimp only [rnCap, capSVs, Int.toNat_natCast, ro, Nat.reduceAdd, Nat.reduceMul, Nat.zero_add, List.map, putT, app, wrapG, gOb, argT, keys, slotOf, dropped, gAnd, wB, rnT, rnS, rnC, rnCs, rnSs, rnM, rnB, rnN, rn, lk, St.over, ded, delL, keepT, menT, menSs, menS, menCs, menC, hasN, resT, SV.cells]; refine wk3 ?_; (focus ((try refine nrmO ?_); (repeat' (first | exact True.intro | refine And.intro ?_ ?_)); all_goals (try (intro (hg_ : _ = true); (try simp only [isNilI, inB, reduceCtorEq, cds] at hg_); (repeat' (first | exact True.intro | refine And.intro ?_ ?_)))); all_goals (first | exact ob1 | exact rfl | skip))))
  rotate_right
  intro i hi_ hiI_
  dsimp only [rnCap, capSVs, Int.toNat_natCast, ro, Nat.reduceAdd, Nat.reduceMul, Nat.zero_add, List.map, putT, app, wrapG, gOb, argT, keys, slotOf, dropped, gAnd, wB, rnT, rnS, rnC, rnCs, rnSs, rnM, rnB, rnN, rn, lk, St.over, ded, delL, keepT, menT, menSs, menS, menCs, menC, hasN, resT, SV.cells]
  have hlen : i ≤ l.length → (mkII k (l.take i) ++ l.drop i).length = l.length := fun h => by rw [List.length_append, mkII_len, List.length_drop, List.length_take]; omega
  have hcn := cntII_le l i
  repeat' (refine ar_id ?_; first | refine st1 ?_ | (first | ((first | refine ar_region tt_ok (inps := []) rfl ?_ ?_); rotate_left; (try refine nrm ?_); rotate_right) | refine ret3 ?_ | refine end3 ?_) | (refine ar_cond rfl trivial ?_ ?_ <;> intro hc_ <;> (try simp only [isNilI, inB, reduceCtorEq, cds] at hc_) <;> (try (first | contradiction | (exfalso; omega)))) | refine ar_until (And.intro ?_ (wk3 ?_)))
  all_goals (first | refine ar_id ?_ | (try (focus ((try refine nrmO ?_); (repeat' (first | exact True.intro | refine And.intro ?_ ?_)); all_goals (try (intro (hg_ : _ = true); (try simp only [isNilI, inB, reduceCtorEq, cds] at hg_); (repeat' (first | exact True.intro | refine And.intro ?_ ?_)))); all_goals (first | exact ob1 | skip)))))
  · have hil : i < l.length := by have := hlen hi_; omega
    have hat := mkII_at (k := k) hil
    have hel : ((mkII k (l.take i) ++ l.drop i).map eIntS)[i]? = some (eIntS (l.getD i [])) := by rw [← hat]; exact map_at (by rw [hlen (by omega)]; exact hil)
    have hct := cntII_take l hil
    refine ar_open 0 i 0 90001 90002 (d := eIntS (l.getD i [])) ((l.getD i []).map Tr.eI) rfl ?_ rfl ?_ rfl rfl rfl ?_
    · first | exact map_at (by omega) | assumption | exact set_at (by (try simp only [List.length_map, List.length_set]); omega) | (rw [List.getElem?_set_ne (by omega)]; exact map_at (by omega))
    · exact ⟨rfl, rfl, by intro e he; simp only [List.mem_map] at he; obtain ⟨_, _, rfl⟩ := he; rfl⟩
    intro A_90001 n_90001 c_90001
    try refine nrm ?_
    refine ar_region (id := 4) tt_ok (inps := [.nest (.lit (Value.slice A_90001 n_90001 c_90001) .nil) [(0, 90002)], .call (c_markI (l.getD i []) (k + cntII (l.take i)))]) rfl ?_ ?_
    rotate_left
    (try dsimp only [c_markI]); (try refine nrm ?_)
    refine ar_close 0 i 0 90001 90002 rfl rfl rfl (set_at ?_) rfl rfl rfl ?_
    · (simp only [List.length_map, List.length_set]; omega)
    try refine nrm ?_
    repeat' (refine ar_id ?_; first | refine st1 ?_ | (first | ((first | refine ar_region tt_ok (inps := []) rfl ?_ ?_); rotate_left; (try refine nrm ?_); rotate_right) | refine ret3 ?_ | refine end3 ?_) | (refine ar_cond rfl trivial ?_ ?_ <;> intro hc_ <;> (try simp only [isNilI, inB, reduceCtorEq, cds] at hc_) <;> (try (first | contradiction | (exfalso; omega)))) | refine ar_until (And.intro ?_ (wk3 ?_)))
    all_goals (first | refine ar_id ?_ | (try (focus ((try refine nrmO ?_); (repeat' (first | exact True.intro | refine And.intro ?_ ?_)); all_goals (try (intro (hg_ : _ = true); (try simp only [isNilI, inB, reduceCtorEq, cds] at hg_); (repeat' (first | exact True.intro | refine And.intro ?_ ?_)))); all_goals (first | exact ob1 | skip)))))
    all_goals (try (focus ((try refine nrmO ?_); (repeat' (first | exact True.intro | refine And.intro ?_ ?_)); all_goals (try (intro (hg_ : _ = true); (try simp only [isNilI, inB, reduceCtorEq, cds] at hg_); (repeat' (first | exact True.intro | refine And.intro ?_ ?_)))); all_goals (first | exact ob1 | exact fn_markI _ _ (hr _ (getD_in hil)) (by omega) | exact hel | skip))))
    · rw [List.set_set]
      exact mkII_set hil
    · simp only [List.length_set, List.length_map]; omega
    · rw [Int.toNat_natCast, List.getElem?_set_self (by rw [List.length_map]; omega)]; rfl
  · have := hlen hi_
    rw [show i = l.length by omega, List.take_length]
  · have := hlen hi_
    rw [show i = l.length by omega, List.take_length, List.drop_length, List.append_nil]
def c_heldII (l : List (List Int)) (k : Nat) : CFD := ⟨156, [.one (ro 33 1 eIntS (mkII k l)), (SV.one (.lit (.int .i64 ((k : Int)))))], [], (TV.sv (.one (.lit (.int .i64 (((k + cntII l : Nat) : Int)))))), [], [], []⟩
theorem fn_heldII (l : List (List Int)) (k : Nat) (hl : l.length ≤ 1048576) (hr : ∀ r ∈ l, r.length ≤ 1048576) (hk : k + cntII l ≤ 1000000000) : Fn Tryz.prog (c_heldII l k) := by
  have hln := mkII_len k l
  refine fn_intro tt_ok Tryz.func156 rfl Tryz.call156 Tryz.ntmps156 Tryz.results156 rfl rfl rfl rfl ?_
  intro X ρ0 hb_ hgl_
  dsimp only [c_heldII]
  try refine nrm ?_
  repeat' (refine ar_id ?_; first | refine st1 ?_ | (first | ((first | refine ar_region tt_ok (inps := []) rfl ?_ ?_); rotate_left; (try refine nrm ?_); rotate_right) | refine ret3 ?_ | refine end3 ?_) | (refine ar_cond rfl trivial ?_ ?_ <;> intro hc_ <;> (try simp only [isNilI, inB, reduceCtorEq, cds] at hc_) <;> (try (first | contradiction | (exfalso; omega)))) | refine ar_until (And.intro ?_ (wk3 ?_)))
  all_goals (first | refine ar_id ?_ | (try (focus ((try refine nrmO ?_); (repeat' (first | exact True.intro | refine And.intro ?_ ?_)); all_goals (try (intro (hg_ : _ = true); (try simp only [isNilI, inB, reduceCtorEq, cds] at hg_); (repeat' (first | exact True.intro | refine And.intro ?_ ?_)))); all_goals (first | exact ob1 | skip)))))
  refine ar_keep 51 (by dsimp only [keepS] <;> exact rfl) ?_
  refine ar_forM (l.length) (fun i => True) (fun i => [(5, (TV.sv (.one (.lit (.int .i64 (i)))))), (1, (TV.sv (.one (.lit (.int .i64 (((k + cntII (l.take i) : Nat) : Int)))))))]) (fun i => []) ?_ ?_ ?_
  rotate_left
  · first | trivial | simp
  (dsimp only [rnCap, capSVs, Int.toNat_natCast, ro, Nat.reduceAdd, Nat.reduceMul, Nat.zero_add, List.map, putT, app, wrapG, gOb, argT, keys, slotOf, dropped, gAnd, wB, rnT, rnS, rnC, rnCs, rnSs, rnM, rnB, rnN, rn, lk, St.over, ded, delL, keepT, menT, menSs, menS, menCs, menC, hasN, resT, SV.cells]; refine wk3 ?_; (focus ((try refine nrmO ?_); (repeat' (first | exact True.intro | refine And.intro ?_ ?_)); all_goals (try (intro (hg_ : _ = true); (try simp only [isNilI, inB, reduceCtorEq, cds] at hg_); (repeat' (first | exact True.intro | refine And.intro ?_ ?_)))); all_goals (first | exact ob1 | exact rfl | skip))))
  rotate_right
  intro i hi_ hiI_
  dsimp only [rnCap, capSVs, Int.toNat_natCast, ro, Nat.reduceAdd, Nat.reduceMul, Nat.zero_add, List.map, putT, app, wrapG, gOb, argT, keys, slotOf, dropped, gAnd, wB, rnT, rnS, rnC, rnCs, rnSs, rnM, rnB, rnN, rn, lk, St.over, ded, delL, keepT, menT, menSs, menS, menCs, menC, hasN, resT, SV.cells]
  have hcn := cntII_le l i
  have hct := fun h => cntII_take l (i := i) h
  repeat' (refine ar_id ?_; first | refine st1 ?_ | (first | ((first | refine ar_region (id := 4) tt_ok (inps := [.elem (eIntS (mkI (k + cntII (l.take i)) (l.getD i []).length)), .call (c_heldI (l.getD i []).length (k + cntII (l.take i)))]) rfl ?_ ?_ | refine ar_region tt_ok (inps := []) rfl ?_ ?_); rotate_left; (try dsimp only [c_heldI]); (try refine nrm ?_); rotate_right) | refine ret3 ?_ | refine end3 ?_) | (refine ar_cond rfl trivial ?_ ?_ <;> intro hc_ <;> (try simp only [isNilI, inB, reduceCtorEq, cds] at hc_) <;> (try (first | contradiction | (exfalso; omega)))) | refine ar_until (And.intro ?_ (wk3 ?_)))
  all_goals (first | refine ar_id ?_ | (try (focus ((try refine nrmO ?_); (repeat' (first | exact True.intro | refine And.intro ?_ ?_)); all_goals (try (intro (hg_ : _ = true); (try simp only [isNilI, inB, reduceCtorEq, cds] at hg_); (repeat' (first | exact True.intro | refine And.intro ?_ ?_)))); all_goals (first | exact ob1 | exact fn_heldI _ _ (hr _ (getD_in (by omega))) (by omega) | skip)))))
  · rw [Int.toNat_natCast]
    exact elem_map (fun _ => rfl) (mkII_get (by omega))
  · rw [show i = l.length by omega, List.take_length]
theorem cntII_mem : ∀ {l : List (List Int)} {r : List Int}, r ∈ l → r.length ≤ cntII l
  | x :: l, r, h => by
    show r.length ≤ x.length + cntII l
    rcases List.mem_cons.1 h with rfl | h
    · omega
    · have := cntII_mem h; omega
def c_szB (l : List Bool) (a v : Int) : CFD := ⟨142, [.one (ro 4 1 Tr.eB l), (SV.one (.lit (.int .i64 (a))))], [], (TV.sv (.one (.lit (.int .i64 (v))))), [], [], []⟩
theorem fn_szB (l : List Bool) (a v : Int) (hl : l.length ≤ 9223372036854775807) (ha : 0 ≤ a ∧ a ≤ 1048576) (hv : v = if a - (l.length : Int) < 0 then -1 else a - (l.length : Int)) : Fn Tryz.prog (c_szB l a v) := by
  refine fn_intro tt_ok Tryz.func142 rfl Tryz.call142 Tryz.ntmps142 Tryz.results142 rfl rfl rfl rfl ?_
  intro X ρ0 hb_ hgl_
  dsimp only [c_szB]
  try refine nrm ?_
  repeat' (refine ar_id ?_; first | refine st1 ?_ | (first | ((first | refine ar_region tt_ok (inps := []) rfl ?_ ?_); rotate_left; (try refine nrm ?_); rotate_right) | refine ret3 ?_ | refine end3 ?_) | (refine ar_cond rfl trivial ?_ ?_ <;> intro hc_ <;> (try simp only [isNilI, inB, reduceCtorEq, cds] at hc_) <;> (try (first | contradiction | (exfalso; omega)))) | refine ar_until (And.intro ?_ (wk3 ?_)))
  all_goals (first | refine ar_id ?_ | (try (focus ((try refine nrmO ?_); (repeat' (first | exact True.intro | refine And.intro ?_ ?_)); all_goals (try (intro (hg_ : _ = true); (try simp only [isNilI, inB, reduceCtorEq, cds] at hg_); (repeat' (first | exact True.intro | refine And.intro ?_ ?_)))); all_goals (first | exact ob1 | skip)))))
  all_goals first | (rw [hv, if_pos (by omega)]) | (rw [hv, if_neg (by omega)])
def c_szES (l : List GEntry) (a v : Int) : CFD := ⟨143, [.one (ro 201 2 eEntry l), (SV.one (.lit (.int .i64 (a))))], [], (TV.sv (.one (.lit (.int .i64 (v))))), [], [], []⟩
theorem fn_szES (l : List GEntry) (a v : Int) (hl : l.length ≤ 9223372036854775807) (ha : 0 ≤ a ∧ a ≤ 1048576) (hv : v = if a - (l.length : Int) < 0 then -1 else a - (l.length : Int)) : Fn Tryz.prog (c_szES l a v) := by
  refine fn_intro tt_ok Tryz.func143 rfl Tryz.call143 Tryz.ntmps143 Tryz.results143 rfl rfl rfl rfl ?_
  intro X ρ0 hb_ hgl_
  dsimp only [c_szES]
  try refine nrm ?_
  repeat' (refine ar_id ?_; first | refine st1 ?_ | (first | ((first | refine ar_region tt_ok (inps := []) rfl ?_ ?_); rotate_left; (try refine nrm ?_); rotate_right) | refine ret3 ?_ | refine end3 ?_) | (refine ar_cond rfl trivial ?_ ?_ <;> intro hc_ <;> (try simp only [isNilI, inB, reduceCtorEq, cds] at hc_) <;> (try (first | contradiction | (exfalso; omega)))) | refine ar_until (And.intro ?_ (wk3 ?_)))
  all_goals (first | refine ar_id ?_ | (try (focus ((try refine nrmO ?_); (repeat' (first | exact True.intro | refine And.intro ?_ ?_)); all_goals (try (intro (hg_ : _ = true); (try simp only [isNilI, inB, reduceCtorEq, cds] at hg_); (repeat' (first | exact True.intro | refine And.intro ?_ ?_)))); all_goals (first | exact ob1 | skip)))))
  all_goals first | (rw [hv, if_pos (by omega)]) | (rw [hv, if_neg (by omega)])
def c_szII (l : List (List Int)) (a v : Int) : CFD := ⟨141, [.one (ro 33 1 eIntS l), (SV.one (.lit (.int .i64 (a))))], [], (TV.sv (.one (.lit (.int .i64 (v))))), [], [], []⟩
theorem fn_szII (l : List (List Int)) (a v : Int) (hl : l.length ≤ 9223372036854775807) (hr : ∀ r ∈ l, r.length ≤ 9223372036854775807) (ha : 0 ≤ a ∧ a ≤ 1048576) (hv : v = if a - ((l.length + cntII l : Nat) : Int) < 0 then -1 else a - ((l.length + cntII l : Nat) : Int)) : Fn Tryz.prog (c_szII l a v) := by
  refine fn_intro tt_ok Tryz.func141 rfl Tryz.call141 Tryz.ntmps141 Tryz.results141 rfl rfl rfl rfl ?_
  intro X ρ0 hb_ hgl_
  dsimp only [c_szII]
  try refine nrm ?_
  repeat' (refine ar_id ?_; first | refine st1 ?_ | (first | ((first | refine ar_region tt_ok (inps := []) rfl ?_ ?_); rotate_left; (try refine nrm ?_); rotate_right) | refine ret3 ?_ | refine end3 ?_) | (refine ar_cond rfl trivial ?_ ?_ <;> intro hc_ <;> (try simp only [isNilI, inB, reduceCtorEq, cds] at hc_) <;> (try (first | contradiction | (exfalso; omega)))) | refine ar_until (And.intro ?_ (wk3 ?_)))
  all_goals (first | refine ar_id ?_ | (try (focus ((try refine nrmO ?_); (repeat' (first | exact True.intro | refine And.intro ?_ ?_)); all_goals (try (intro (hg_ : _ = true); (try simp only [isNilI, inB, reduceCtorEq, cds] at hg_); (repeat' (first | exact True.intro | refine And.intro ?_ ?_)))); all_goals (first | exact ob1 | skip)))))
  have h0 : a - (l.length : Int) - (cntII (l.take 0) : Nat) ≥ 0 := by show a - (l.length : Int) - ((0 : Nat) : Int) ≥ 0; omega
  refine ar_keep 51 (by dsimp only [keepS] <;> exact rfl) ?_
  refine ar_forM (l.length) (fun i => a - (l.length : Int) - (cntII (l.take i) : Nat) ≥ 0) (fun i => [(5, (TV.sv (.one (.lit (.int .i64 (i)))))), (1, (TV.sv (.one (.lit (.int .i64 (a - (l.length : Int) - (cntII (l.take i) : Nat)))))))]) (fun i => []) ?_ ?_ ?_
  rotate_left
  · first | trivial | simp
  (dsimp only [rnCap, capSVs, Int.toNat_natCast, ro, Nat.reduceAdd, Nat.reduceMul, Nat.zero_add, List.map, putT, app, wrapG, gOb, argT, keys, slotOf, dropped, gAnd, wB, rnT, rnS, rnC, rnCs, rnSs, rnM, rnB, rnN, rn, lk, St.over, ded, delL, keepT, menT, menSs, menS, menCs, menC, hasN, resT, SV.cells]; refine wk3 ?_; (focus ((try refine nrmO ?_); (repeat' (first | exact True.intro | refine And.intro ?_ ?_)); all_goals (try (intro (hg_ : _ = true); (try simp only [isNilI, inB, reduceCtorEq, cds] at hg_); (repeat' (first | exact True.intro | refine And.intro ?_ ?_)))); all_goals (first | exact ob1 | exact rfl | skip))))
  rotate_right
  intro i hi_ hiI_
  dsimp only [rnCap, capSVs, Int.toNat_natCast, ro, Nat.reduceAdd, Nat.reduceMul, Nat.zero_add, List.map, putT, app, wrapG, gOb, argT, keys, slotOf, dropped, gAnd, wB, rnT, rnS, rnC, rnCs, rnSs, rnM, rnB, rnN, rn, lk, St.over, ded, delL, keepT, menT, menSs, menS, menCs, menC, hasN, resT, SV.cells]
  have hcn := cntII_le l i
  have hct := fun h => cntII_take l (i := i) h
  have hcs := cntII_le l (i + 1)
  by_cases hx : a - (l.length : Int) - (cntII (l.take i) : Nat) - ((l.getD i []).length : Int) < 0
  · skip
    repeat' (refine ar_id ?_; first | refine st1 ?_ | (first | ((first | refine ar_region (id := 7) tt_ok (inps := [.elem (eIntS (l.getD i [])), .call (c_szI (l.getD i []) (a - (l.length : Int) - (cntII (l.take i) : Nat)) (-1))]) rfl ?_ ?_ | refine ar_region tt_ok (inps := []) rfl ?_ ?_); rotate_left; (try dsimp only [c_szI]); (try refine nrm ?_); rotate_right) | refine ret3 ?_ | refine end3 ?_) | (refine ar_cond rfl trivial ?_ ?_ <;> intro hc_ <;> (try simp only [isNilI, inB, reduceCtorEq, cds] at hc_) <;> (try (first | contradiction | (exfalso; omega)))) | refine ar_until (And.intro ?_ (wk3 ?_)))
    all_goals (first | refine ar_id ?_ | (try (focus ((try refine nrmO ?_); (repeat' (first | exact True.intro | refine And.intro ?_ ?_)); all_goals (try (intro (hg_ : _ = true); (try simp only [isNilI, inB, reduceCtorEq, cds] at hg_); (repeat' (first | exact True.intro | refine And.intro ?_ ?_)))); all_goals (first | exact ob1 | exact fn_szI _ _ _ (hr _ (getD_in (by omega))) (by omega) (by rw [if_pos hx]) | skip)))))
    all_goals
      obtain rfl : i = l.length := by omega
      rw [List.take_length] at hiI_ ⊢
      rw [hv, if_neg (by omega)]
      congr 1
      omega
  · skip
    repeat' (refine ar_id ?_; first | refine st1 ?_ | (first | ((first | refine ar_region (id := 7) tt_ok (inps := [.elem (eIntS (l.getD i [])), .call (c_szI (l.getD i []) (a - (l.length : Int) - (cntII (l.take i) : Nat)) (a - (l.length : Int) - (cntII (l.take i) : Nat) - ((l.getD i []).length : Int)))]) rfl ?_ ?_ | refine ar_region tt_ok (inps := []) rfl ?_ ?_); rotate_left; (try dsimp only [c_szI]); (try refine nrm ?_); rotate_right) | refine ret3 ?_ | refine end3 ?_) | (refine ar_cond rfl trivial ?_ ?_ <;> intro hc_ <;> (try simp only [isNilI, inB, reduceCtorEq, cds] at hc_) <;> (try (first | contradiction | (exfalso; omega)))) | refine ar_until (And.intro ?_ (wk3 ?_)))
    all_goals (first | refine ar_id ?_ | (try (focus ((try refine nrmO ?_); (repeat' (first | exact True.intro | refine And.intro ?_ ?_)); all_goals (try (intro (hg_ : _ = true); (try simp only [isNilI, inB, reduceCtorEq, cds] at hg_); (repeat' (first | exact True.intro | refine And.intro ?_ ?_)))); all_goals (first | exact ob1 | exact fn_szI _ _ _ (hr _ (getD_in (by omega))) (by omega) (by rw [if_neg hx]) | skip)))))
    all_goals
      obtain rfl : i = l.length := by omega
      rw [List.take_length] at hiI_ ⊢
      rw [hv, if_neg (by omega)]
      congr 1
      omega
  · show _ = Value.int .i64 (a - (l.length : Int) - ((0 : Nat) : Int))
    congr 1
    omega
end Eng
end Go.Proofs.YtabnglcabpijfaaGreatDoor
namespace Go.Proofs.YtabnglcabpijfaaGreatDoor
open Go.RowKit
set_option linter.unusedVariables false
namespace Tr
def okV (u : Bool) (v : Int) : Prop := (0 ≤ v ∧ v ≤ 999) ∧ (u = true ∨ v = 0)
instance (u : Bool) (v : Int) : Decidable (okV u v) := by unfold okV; infer_instance
def okRow (u : Bool) (r : List Int) : Prop := r.length = 16 ∧ ∀ v ∈ r, okV u v
instance (u : Bool) (r : List Int) : Decidable (okRow u r) := by unfold okRow; infer_instance
def okF (f : GFrames) : Prop := (1 ≤ f.Cells.length ∧ f.Cells.length ≤ 32) ∧ f.Used.length = f.Cells.length ∧ ∀ p ∈ f.Cells.zip f.Used, okRow p.2 p.1
instance (f : GFrames) : Decidable (okF f) := by unfold okF; infer_instance
def pFramesOk (f : GFrames) : Bool := decide (okF f)
theorem zip_at {α β : Type} {l : List α} {m : List β} {i : Nat} {x : α} {y : β} (hx : l[i]? = some x) (hy : m[i]? = some y) : (l.zip m)[i]? = some (x, y) := List.getElem?_zip_eq_some.2 ⟨hx, hy⟩
/-- frame i of valid frames is used -/
def isUsed (f : GFrames) (i : Int) : Prop := okF f ∧ (0 ≤ i ∧ i < f.Used.length) ∧ f.Used[i.toNat]? = some true
instance (f : GFrames) (i : Int) : Decidable (isUsed f i) := by unfold isUsed; infer_instance
def pFrameGive (f : GFrames) (i : Int) : GFrames × Bool := if isUsed f i then (⟨f.Cells.set i.toNat (List.replicate 16 0), f.Used.set i.toNat false⟩, true) else (f, false)
end Tr
end Go.Proofs.YtabnglcabpijfaaGreatDoor
namespace Go.Proofs.YtabnglcabpijfaaGreatDoor
open Go.RowKit
set_option linter.unusedVariables false
set_option linter.unusedSimpArgs false
set_option maxRecDepth 100000
namespace Eng
open Tr
def c_Copy5 (f : GFrames) : CFD := ⟨144, [.agg [ro 33 1 eIntS f.Cells, ro 4 1 Tr.eB f.Used]], [], .sv (.agg [.hd 0, .hd 1]),
  [(0, some (.row 33 1 (f.Cells.map eIntS))), (1, some (.row 4 1 (f.Used.map Tr.eB)))], [0, 1], []⟩
theorem fn_Copy5 (f : GFrames) (hl : f.Cells.length ≤ 1048576) (hu : f.Used.length ≤ 1048576) (hc : ∀ r ∈ f.Cells, r.length ≤ 1048576) : Fn Tryz.prog (c_Copy5 f) := by
  refine fn_intro tt_ok Tryz.func144 rfl Tryz.call144 Tryz.ntmps144 Tryz.results144 rfl rfl rfl rfl ?_
  intro X ρ0 hb_ hgl_
  dsimp only [c_Copy5]
  try refine nrm ?_
  repeat' (refine ar_id ?_; first | refine st1 ?_ | (first | ((first | refine ar_region (id := 1) tt_ok (inps := [.elems (f.Used.map Tr.eB)]) rfl ?_ ?_ | refine ar_region tt_ok (inps := []) rfl ?_ ?_); rotate_left; (try refine nrm ?_); rotate_right) | refine ret3 ?_ | refine end3 ?_) | (refine ar_cond rfl trivial ?_ ?_ <;> intro hc_ <;> (try simp only [isNilI, inB, reduceCtorEq, cds] at hc_) <;> (try (first | contradiction | (exfalso; omega)))) | refine ar_until (And.intro ?_ (wk3 ?_)))
  all_goals (first | refine ar_id ?_ | (try (focus ((try refine nrmO ?_); (repeat' (first | exact True.intro | refine And.intro ?_ ?_)); all_goals (try (intro (hg_ : _ = true); (try simp only [isNilI, inB, reduceCtorEq, cds] at hg_); (repeat' (first | exact True.intro | refine And.intro ?_ ?_)))); all_goals (first | exact ob1 | exact flat_map' f.Used (fun x => ⟨rfl, rfl, trivial⟩) | exact (by simp only [lns]; omega) | exact (by simp) | skip)))))
  refine ar_nilB (b := 3) (j := 0) (T := 33) (q := 1) (r := 90000) rfl rfl rfl rfl rfl ?_
  try dsimp only [putL]
  refine ar_keep 31 (by dsimp only [keepS] <;> exact rfl) ?_
  refine ar_forM (f.Cells.length) (fun i => True) (fun i => [(4, (TV.sv (.one (.lit (.int .i64 (i))))))]) (fun i => [(3, some (.box 27 [.hd 90000, .hd 8])), (90000, some (.row 33 1 ((f.Cells.take i).map eIntS)))]) ?_ ?_ ?_
  rotate_left
  · first | trivial | simp
  (dsimp only [rnCap, capSVs, Int.toNat_natCast, ro, Nat.reduceAdd, Nat.reduceMul, Nat.zero_add, List.map, putT, app, wrapG, gOb, argT, keys, slotOf, dropped, gAnd, wB, rnT, rnS, rnC, rnCs, rnSs, rnM, rnB, rnN, rn, lk, St.over, ded, delL, keepT, menT, menSs, menS, menCs, menC, hasN, resT, SV.cells]; refine wk3 ?_; (focus ((try refine nrmO ?_); (repeat' (first | exact True.intro | refine And.intro ?_ ?_)); all_goals (try (intro (hg_ : _ = true); (try simp only [isNilI, inB, reduceCtorEq, cds] at hg_); (repeat' (first | exact True.intro | refine And.intro ?_ ?_)))); all_goals (first | exact ob1 | exact rfl | skip))))
  rotate_right
  intro i hi_ hiI_
  dsimp only [rnCap, capSVs, Int.toNat_natCast, ro, Nat.reduceAdd, Nat.reduceMul, Nat.zero_add, List.map, putT, app, wrapG, gOb, argT, keys, slotOf, dropped, gAnd, wB, rnT, rnS, rnC, rnCs, rnSs, rnM, rnB, rnN, rn, lk, St.over, ded, delL, keepT, menT, menSs, menS, menCs, menC, hasN, resT, SV.cells]
  repeat' (refine ar_id ?_; first | refine st1 ?_ | (first | ((first | refine ar_region tt_ok (inps := []) rfl ?_ ?_); rotate_left; (try refine nrm ?_); rotate_right) | refine ret3 ?_ | refine end3 ?_) | (refine ar_cond rfl trivial ?_ ?_ <;> intro hc_ <;> (try simp only [isNilI, inB, reduceCtorEq, cds] at hc_) <;> (try (first | contradiction | (exfalso; omega)))) | refine ar_until (And.intro ?_ (wk3 ?_)))
  all_goals (first | refine ar_id ?_ | (try (focus ((try refine nrmO ?_); (repeat' (first | exact True.intro | refine And.intro ?_ ?_)); all_goals (try (intro (hg_ : _ = true); (try simp only [isNilI, inB, reduceCtorEq, cds] at hg_); (repeat' (first | exact True.intro | refine And.intro ?_ ?_)))); all_goals (first | exact ob1 | skip)))))
  · have hi : f.Cells.getD i [] ∈ f.Cells := by rw [List.getD_eq_getElem?_getD, List.getElem?_eq_getElem (by omega)]; exact List.getElem_mem _
    refine ar_draw (id := 5) (inps := [ .elem (eIntS (f.Cells.getD i [])), .elems ((f.Cells.getD i []).map eI)]) tt_ok (by kernel_rfl) rfl rfl (by kernel_rfl) rfl rfl rfl rfl ?_ ?_
    rotate_left
    (try refine nrm ?_)
    repeat' (refine ar_id ?_; first | refine st1 ?_ | (first | ((first | refine ar_region tt_ok (inps := []) rfl ?_ ?_); rotate_left; (try refine nrm ?_); rotate_right) | refine ret3 ?_ | refine end3 ?_) | (refine ar_cond rfl trivial ?_ ?_ <;> intro hc_ <;> (try simp only [isNilI, inB, reduceCtorEq, cds] at hc_) <;> (try (first | contradiction | (exfalso; omega)))) | refine ar_until (And.intro ?_ (wk3 ?_)))
    all_goals (first | refine ar_id ?_ | (try (focus ((try refine nrmO ?_); (repeat' (first | exact True.intro | refine And.intro ?_ ?_)); all_goals (try (intro (hg_ : _ = true); (try simp only [isNilI, inB, reduceCtorEq, cds] at hg_); (repeat' (first | exact True.intro | refine And.intro ?_ ?_)))); all_goals (first | exact ob1 | skip)))))
    all_goals (try (focus ((try refine nrmO ?_); (repeat' (first | exact True.intro | refine And.intro ?_ ?_)); all_goals (try (intro (hg_ : _ = true); (try simp only [isNilI, inB, reduceCtorEq, cds] at hg_); (repeat' (first | exact True.intro | refine And.intro ?_ ?_)))); all_goals (first | exact ob1 | exact flat_map' (f.Cells.getD i []) (fun x => ⟨rfl, rfl, trivial⟩) | exact (by have := hc _ hi; simp only [lns]; omega) | skip))))
    · rw [take_getD _ [] (by omega), List.map_append, app_eq]; rfl
  · rw [List.take_of_length_le (by omega)]
def c_Ok5 (f : GFrames) : CFD := ⟨91, [.agg [ro 33 1 eIntS f.Cells, ro 4 1 Tr.eB f.Used]], [], (TV.sv (.one (.lit (.bool (pFramesOk f))))), [], [], []⟩
theorem zip_take' {α β : Type} {l : List α} {m : List β} {i : Nat} {a : α} {b : β} (h1 : i < l.length) (h2 : i < m.length) : (l.zip m).getD i (a, b) = (l.getD i a, m.getD i b) := by
  have := zip_at (getD_at (x := a) h1) (getD_at (x := b) h2)
  rw [List.getD_eq_getElem?_getD, this]
  rfl
theorem fn_Ok5 (f : GFrames) (hl : f.Cells.length ≤ 1048576) (hu : f.Used.length ≤ 1048576) (hc : ∀ r ∈ f.Cells, r.length ≤ 1048576) : Fn Tryz.prog (c_Ok5 f) := by
  refine fn_intro tt_ok Tryz.func91 rfl Tryz.call91 Tryz.ntmps91 Tryz.results91 rfl rfl rfl rfl ?_
  intro X ρ0 hb_ hgl_
  dsimp only [c_Ok5]
  try refine nrm ?_
  repeat' (refine ar_id ?_; first | refine st1 ?_ | (first | ((first | refine ar_region (id := 1) tt_ok (inps := [.call (c_In f.Cells.length 1 32)]) rfl ?_ ?_ | refine ar_region tt_ok (inps := []) rfl ?_ ?_); rotate_left; (try dsimp only [c_In]); (try refine nrm ?_); rotate_right) | refine ret3 ?_ | refine end3 ?_) | (refine ar_cond rfl trivial ?_ ?_ <;> intro hc_ <;> (try simp only [isNilI, inB, reduceCtorEq, cds] at hc_) <;> (try (first | contradiction | (exfalso; omega)))) | refine ar_until (And.intro ?_ (wk3 ?_)))
  all_goals (first | refine ar_id ?_ | (try (focus ((try refine nrmO ?_); (repeat' (first | exact True.intro | refine And.intro ?_ ?_)); all_goals (try (intro (hg_ : _ = true); (try simp only [isNilI, inB, reduceCtorEq, cds] at hg_); (repeat' (first | exact True.intro | refine And.intro ?_ ?_)))); all_goals (first | exact ob1 | exact fn_In _ _ _ | skip)))))
  · exact bf fun h => by have := h.1; have := h.2.1; omega
  have hlen := hc_
  refine ar_keep 63 (by dsimp only [keepS] <;> exact rfl) ?_
  refine ar_forM (f.Cells.length) (fun i => ∀ p ∈ (f.Cells.zip f.Used).take i, okRow p.2 p.1) (fun i => [(3, (TV.sv (.one (.lit (.int .i64 (i))))))]) (fun i => []) ?_ ?_ ?_
  rotate_left
  · first | trivial | simp
  (dsimp only [rnCap, capSVs, Int.toNat_natCast, ro, Nat.reduceAdd, Nat.reduceMul, Nat.zero_add, List.map, putT, app, wrapG, gOb, argT, keys, slotOf, dropped, gAnd, wB, rnT, rnS, rnC, rnCs, rnSs, rnM, rnB, rnN, rn, lk, St.over, ded, delL, keepT, menT, menSs, menS, menCs, menC, hasN, resT, SV.cells]; refine wk3 ?_; (focus ((try refine nrmO ?_); (repeat' (first | exact True.intro | refine And.intro ?_ ?_)); all_goals (try (intro (hg_ : _ = true); (try simp only [isNilI, inB, reduceCtorEq, cds] at hg_); (repeat' (first | exact True.intro | refine And.intro ?_ ?_)))); all_goals (first | exact ob1 | exact rfl | skip))))
  rotate_right
  intro i hi_ hiI_
  dsimp only [rnCap, capSVs, Int.toNat_natCast, ro, Nat.reduceAdd, Nat.reduceMul, Nat.zero_add, List.map, putT, app, wrapG, gOb, argT, keys, slotOf, dropped, gAnd, wB, rnT, rnS, rnC, rnCs, rnSs, rnM, rnB, rnN, rn, lk, St.over, ded, delL, keepT, menT, menSs, menS, menCs, menC, hasN, resT, SV.cells]
  repeat' (refine ar_id ?_; first | refine st1 ?_ | (first | ((first | refine ar_region (id := 6) tt_ok (inps := [.elem (eIntS (f.Cells.getD i []))]) rfl ?_ ?_ | refine ar_region tt_ok (inps := []) rfl ?_ ?_); rotate_left; (try refine nrm ?_); rotate_right) | refine ret3 ?_ | refine end3 ?_) | (refine ar_cond rfl trivial ?_ ?_ <;> intro hc_ <;> (try simp only [isNilI, inB, reduceCtorEq, cds] at hc_) <;> (try (first | contradiction | (exfalso; omega)))) | refine ar_until (And.intro ?_ (wk3 ?_)))
  all_goals (first | refine ar_id ?_ | (try (focus ((try refine nrmO ?_); (repeat' (first | exact True.intro | refine And.intro ?_ ?_)); all_goals (try (intro (hg_ : _ = true); (try simp only [isNilI, inB, reduceCtorEq, cds] at hg_); (repeat' (first | exact True.intro | refine And.intro ?_ ?_)))); all_goals (first | exact ob1 | skip)))))
  · refine bf fun h => hc_ ?_
    have := h.2.2 _ (getD_in (l := f.Cells.zip f.Used) (i := i) (d := ([], false)) (by rw [List.length_zip]; omega))
    rw [zip_take' (by omega) (by omega)] at this
    rw [this.1]; rfl
  · have h16 := hc_
    refine ar_keep 63 (by dsimp only [keepS] <;> exact rfl) ?_
    refine ar_forM (16) (fun k => ∀ v ∈ (f.Cells.getD i []).take k, okV (f.Used.getD i false) v) (fun k => [(4, (TV.sv (.one (.lit (.int .i64 (k))))))]) (fun k => []) ?_ ?_ ?_
    rotate_left
    · first | trivial | simp
    (dsimp only [rnCap, capSVs, Int.toNat_natCast, ro, Nat.reduceAdd, Nat.reduceMul, Nat.zero_add, List.map, putT, app, wrapG, gOb, argT, keys, slotOf, dropped, gAnd, wB, rnT, rnS, rnC, rnCs, rnSs, rnM, rnB, rnN, rn, lk, St.over, ded, delL, keepT, menT, menSs, menS, menCs, menC, hasN, resT, SV.cells]; refine wk3 ?_; (focus ((try refine nrmO ?_); (repeat' (first | exact True.intro | refine And.intro ?_ ?_)); all_goals (try (intro (hg_ : _ = true); (try simp only [isNilI, inB, reduceCtorEq, cds] at hg_); (repeat' (first | exact True.intro | refine And.intro ?_ ?_)))); all_goals (first | exact ob1 | exact rfl | skip))))
    rotate_right
    intro k hk_ hkI_
    dsimp only [rnCap, capSVs, Int.toNat_natCast, ro, Nat.reduceAdd, Nat.reduceMul, Nat.zero_add, List.map, putT, app, wrapG, gOb, argT, keys, slotOf, dropped, gAnd, wB, rnT, rnS, rnC, rnCs, rnSs, rnM, rnB, rnN, rn, lk, St.over, ded, delL, keepT, menT, menSs, menS, menCs, menC, hasN, resT, SV.cells]
    repeat' (refine ar_id ?_; first | refine st1 ?_ | (first | ((first | refine ar_region (id := 11) tt_ok (inps := [.elem (eIntS (f.Cells.getD i [])), .elem (Tr.eI ((f.Cells.getD i []).getD k 0))]) rfl ?_ ?_ | refine ar_region (id := 12) tt_ok (inps := [.call (c_In ((f.Cells.getD i []).getD k 0) 0 999), .elem (Tr.eB (f.Used.getD i false))]) rfl ?_ ?_ | refine ar_region tt_ok (inps := []) rfl ?_ ?_); rotate_left; (try dsimp only [c_In]); (try refine nrm ?_); rotate_right) | refine ret3 ?_ | refine end3 ?_) | (refine ar_cond rfl trivial ?_ ?_ <;> intro hc_ <;> (try simp only [isNilI, inB, reduceCtorEq, cds] at hc_) <;> (try (first | contradiction | (exfalso; omega)))) | refine ar_until (And.intro ?_ (wk3 ?_)))
    all_goals (first | refine ar_id ?_ | (try (focus ((try refine nrmO ?_); (repeat' (first | exact True.intro | refine And.intro ?_ ?_)); all_goals (try (intro (hg_ : _ = true); (try simp only [isNilI, inB, reduceCtorEq, cds] at hg_); (repeat' (first | exact True.intro | refine And.intro ?_ ?_)))); all_goals (first | exact ob1 | exact fn_In _ _ _ | skip)))))
    · refine bf fun h => ?_
      have := h.2.2 _ (getD_in (l := f.Cells.zip f.Used) (i := i) (d := ([], false)) (by rw [List.length_zip]; omega))
      rw [zip_take' (by omega) (by omega)] at this
      have h5 := this.2 _ (getD_in (l := f.Cells.getD i []) (i := k) (d := 0) (by omega))
      rcases hc_ with h1 | ⟨h1, h2⟩
      · have := h5.1; omega
      · rcases h5.2 with h3 | h3
        · rw [h1] at h3; cases h3
        · exact h2 h3
    · exact all_take (d := 0) hkI_ (by omega) hc_
    · refine all_take (d := ([], false)) hiI_ (by rw [List.length_zip]; omega) ?_
      rw [zip_take' (by omega) (by omega)]
      refine ⟨(show (f.Cells.getD i []).length = 16 by omega), ?_⟩
      exact all_full (l := f.Cells.getD i []) hkI_ (by omega)
  · exact bt ⟨by omega, by omega, all_full hiI_ (by rw [List.length_zip]; omega)⟩
end Eng
end Go.Proofs.YtabnglcabpijfaaGreatDoor
namespace Go.Proofs.YtabnglcabpijfaaGreatDoor
open Go.RowKit
namespace Tr
/-- an entry of a table over so many frames -/
def okE (frames : Int) (e : GEntry) : Prop := (e.Mode = 0 ∧ e.Frame = 0) ∨ ((e.Mode = 1 ∨ e.Mode = 2) ∧ 0 ≤ e.Frame ∧ e.Frame < frames)
instance (frames : Int) (e : GEntry) : Decidable (okE frames e) := by unfold okE; infer_instance
def pTableOk (t : GTable) (frames : Int) : Bool := decide ((∀ e ∈ t.Entries, okE frames e) ∧ 1 ≤ t.Entries.length ∧ t.Entries.length ≤ 32)
def okSet (t : GTable) (page : Int) (e : GEntry) : Prop := (0 ≤ page ∧ page < t.Entries.length) ∧ ((e.Mode = 0 ∧ e.Frame = 0) ∨ ((e.Mode = 1 ∨ e.Mode = 2) ∧ 0 ≤ e.Frame))
instance (t : GTable) (page : Int) (e : GEntry) : Decidable (okSet t page e) := by unfold okSet; infer_instance
def pSetPage (t : GTable) (page : Int) (e : GEntry) : GTable × Bool := if okSet t page e then (⟨t.Entries.set page.toNat e⟩, true) else (t, false)
def pPageEntry (t : GTable) (page : Int) : GEntry := if 0 ≤ page ∧ page < t.Entries.length then t.Entries.getD page.toNat ⟨0, 0⟩ else ⟨0, 0⟩
def onFrame (frame : Int) : Nat → List GEntry → List Int
  | _, [] => []
  | i, e :: l => (if e.Mode ≠ 0 ∧ e.Frame = frame then [(i : Int)] else []) ++ onFrame frame (i + 1) l
def pPagesOn (t : GTable) (frame : Int) : List Int := onFrame frame 0 t.Entries
theorem onFrame_append (f : Int) : ∀ (i : Nat) (a b : List GEntry), onFrame f i (a ++ b) = onFrame f i a ++ onFrame f (i + a.length) b
  | i, [], b => by simp [onFrame]
  | i, e :: a, b => by
    show _ ++ onFrame f (i + 1) (a ++ b) = (_ ++ onFrame f (i + 1) a) ++ _
    rw [onFrame_append f (i + 1) a b, List.append_assoc, List.length_cons, show i + 1 + a.length = i + (a.length + 1) by omega]
theorem onFrame_take (f : Int) (l : List GEntry) (i : Nat) (x : GEntry) (h : l[i]? = some x) : onFrame f 0 (l.take (i + 1)) = onFrame f 0 (l.take i) ++ (if x.Mode ≠ 0 ∧ x.Frame = f then [(i : Int)] else []) := by
  have hi : i < l.length := (List.getElem?_eq_some_iff.1 h).1
  rw [List.take_add_one, h, onFrame_append, List.length_take, Nat.min_eq_left (by omega), Nat.zero_add]
  show _ ++ (_ ++ []) = _
  rw [List.append_nil]
theorem onFrame_len (f : Int) : ∀ (i : Nat) (l : List GEntry), (onFrame f i l).length ≤ l.length
  | _, [] => Nat.le_refl _
  | i, e :: l => by
    show (_ ++ onFrame f (i + 1) l).length ≤ l.length + 1
    have := onFrame_len f (i + 1) l
    rw [List.length_append]
    split <;> simp <;> omega
end Tr
end Go.Proofs.YtabnglcabpijfaaGreatDoor
namespace Go.Proofs.YtabnglcabpijfaaGreatDoor
open Go.RowKit
set_option linter.unusedVariables false
set_option linter.unusedSimpArgs false
set_option maxRecDepth 100000
namespace Eng
open Tr
def c_Copy6 (t : GTable) : CFD := ⟨145, [.agg [ro 42 2 eEntry t.Entries]], [], .sv (.agg [.hd 0]), [(0, some (.row 42 2 (t.Entries.map eEntry)))], [0], []⟩
theorem fn_Copy6 (t : GTable) (hl : t.Entries.length ≤ 1048576) : Fn Tryz.prog (c_Copy6 t) := by
  refine fn_intro tt_ok Tryz.func145 rfl Tryz.call145 Tryz.ntmps145 Tryz.results145 rfl rfl rfl rfl ?_
  intro X ρ0 hb_ hgl_
  dsimp only [c_Copy6]
  try refine nrm ?_
  repeat' (refine ar_id ?_; first | refine st1 ?_ | (first | ((first | refine ar_region (id := 1) tt_ok (inps := [.elems (t.Entries.map eEntry)]) rfl ?_ ?_ | refine ar_region tt_ok (inps := []) rfl ?_ ?_); rotate_left; (try refine nrm ?_); rotate_right) | refine ret3 ?_ | refine end3 ?_) | (refine ar_cond rfl trivial ?_ ?_ <;> intro hc_ <;> (try simp only [isNilI, inB, reduceCtorEq, cds] at hc_) <;> (try (first | contradiction | (exfalso; omega)))) | refine ar_until (And.intro ?_ (wk3 ?_)))
  all_goals (first | refine ar_id ?_ | (try (focus ((try refine nrmO ?_); (repeat' (first | exact True.intro | refine And.intro ?_ ?_)); all_goals (try (intro (hg_ : _ = true); (try simp only [isNilI, inB, reduceCtorEq, cds] at hg_); (repeat' (first | exact True.intro | refine And.intro ?_ ?_)))); all_goals (first | exact ob1 | exact flat_map' t.Entries (fun x => ⟨rfl, rfl, rfl, trivial⟩) | exact (by simp only [lns]; omega) | exact (by simp) | skip)))))
def c_PageEntry (t : GTable) (page : Int) : CFD := ⟨9, [.agg [ro 42 2 eEntry t.Entries], (SV.one (.lit (.int .i64 (page))))], [], .sv (.agg [(CV.lit (.int .i64 ((pPageEntry t page).Mode))), (CV.lit (.int .i64 ((pPageEntry t page).Frame)))]), [], [], []⟩
theorem fn_PageEntry (t : GTable) (page : Int) (hl : t.Entries.length ≤ 1048576) : Fn Tryz.prog (c_PageEntry t page) := by
  refine fn_intro tt_ok Tryz.func9 rfl Tryz.call9 Tryz.ntmps9 Tryz.results9 rfl rfl rfl rfl ?_
  intro X ρ0 hb_ hgl_
  dsimp only [c_PageEntry]
  try refine nrm ?_
  repeat' (refine ar_id ?_; first | refine st1 ?_ | (first | ((first | refine ar_region (id := 1) tt_ok (inps := [.call (c_In page 0 (t.Entries.length - 1))]) rfl ?_ ?_ | refine ar_region (id := 3) tt_ok (inps := [.elem (eEntry (t.Entries.getD page.toNat ⟨0, 0⟩))]) rfl ?_ ?_ | refine ar_region tt_ok (inps := []) rfl ?_ ?_); rotate_left; (try dsimp only [c_In]); (try refine nrm ?_); rotate_right) | refine ret3 ?_ | refine end3 ?_) | (refine ar_cond rfl trivial ?_ ?_ <;> intro hc_ <;> (try simp only [isNilI, inB, reduceCtorEq, cds] at hc_) <;> (try (first | contradiction | (exfalso; omega)))) | refine ar_until (And.intro ?_ (wk3 ?_)))
  all_goals (first | refine ar_id ?_ | (try (focus ((try refine nrmO ?_); (repeat' (first | exact True.intro | refine And.intro ?_ ?_)); all_goals (try (intro (hg_ : _ = true); (try simp only [isNilI, inB, reduceCtorEq, cds] at hg_); (repeat' (first | exact True.intro | refine And.intro ?_ ?_)))); all_goals (first | exact ob1 | exact fn_In _ _ _ | skip)))))
  all_goals unfold pPageEntry
  · rw [if_neg (by omega)]
  · rw [if_neg (by omega)]
  · rw [if_pos (by omega)]
  · rw [if_pos (by omega)]
def c_PagesOn (t : GTable) (frame : Int) : CFD := ⟨93, [.agg [ro 42 2 eEntry t.Entries], (SV.one (.lit (.int .i64 (frame))))], [], .sv (.one (.hd 0)), [(0, some (.row 3 1 ((pPagesOn t frame).map eI)))], [0], []⟩
theorem fn_PagesOn (t : GTable) (frame : Int) (hl : t.Entries.length ≤ 1048576) : Fn Tryz.prog (c_PagesOn t frame) := by
  refine fn_intro tt_ok Tryz.func93 rfl Tryz.call93 Tryz.ntmps93 Tryz.results93 rfl rfl rfl rfl ?_
  intro X ρ0 hb_ hgl_
  dsimp only [c_PagesOn]
  try refine nrm ?_
  repeat' (refine ar_id ?_; first | refine st1 ?_ | (first | ((first | refine ar_region tt_ok (inps := []) rfl ?_ ?_); rotate_left; (try refine nrm ?_); rotate_right) | refine ret3 ?_ | refine end3 ?_) | (refine ar_cond rfl trivial ?_ ?_ <;> intro hc_ <;> (try simp only [isNilI, inB, reduceCtorEq, cds] at hc_) <;> (try (first | contradiction | (exfalso; omega)))) | refine ar_until (And.intro ?_ (wk3 ?_)))
  all_goals (first | refine ar_id ?_ | (try (focus ((try refine nrmO ?_); (repeat' (first | exact True.intro | refine And.intro ?_ ?_)); all_goals (try (intro (hg_ : _ = true); (try simp only [isNilI, inB, reduceCtorEq, cds] at hg_); (repeat' (first | exact True.intro | refine And.intro ?_ ?_)))); all_goals (first | exact ob1 | skip)))))
  refine ar_keep 119 (by dsimp only [keepS] <;> exact rfl) ?_
  refine ar_forM (t.Entries.length) (fun i => True) (fun i => [(6, (TV.sv (.one (.lit (.int .i64 (i)))))), (5, (TV.sv (.one (.hd 7))))]) (fun i => [(7, some (.row 3 1 ((onFrame frame 0 (t.Entries.take i)).map eI)))]) ?_ ?_ ?_
  rotate_left
  · first | trivial | simp
  (dsimp only [rnCap, capSVs, Int.toNat_natCast, ro, Nat.reduceAdd, Nat.reduceMul, Nat.zero_add, List.map, putT, app, wrapG, gOb, argT, keys, slotOf, dropped, gAnd, wB, rnT, rnS, rnC, rnCs, rnSs, rnM, rnB, rnN, rn, lk, St.over, ded, delL, keepT, menT, menSs, menS, menCs, menC, hasN, resT, SV.cells]; refine wk3 ?_; (focus ((try refine nrmO ?_); (repeat' (first | exact True.intro | refine And.intro ?_ ?_)); all_goals (try (intro (hg_ : _ = true); (try simp only [isNilI, inB, reduceCtorEq, cds] at hg_); (repeat' (first | exact True.intro | refine And.intro ?_ ?_)))); all_goals (first | exact ob1 | exact rfl | skip))))
  rotate_right
  intro i hi_ hiI_
  dsimp only [rnCap, capSVs, Int.toNat_natCast, ro, Nat.reduceAdd, Nat.reduceMul, Nat.zero_add, List.map, putT, app, wrapG, gOb, argT, keys, slotOf, dropped, gAnd, wB, rnT, rnS, rnC, rnCs, rnSs, rnM, rnB, rnN, rn, lk, St.over, ded, delL, keepT, menT, menSs, menS, menCs, menC, hasN, resT, SV.cells]
  repeat' (refine ar_id ?_; first | refine st1 ?_ | (first | ((first | refine ar_region (id := 5) tt_ok (inps := [.elem (eEntry (t.Entries.getD i ⟨0, 0⟩)), .elem (eEntry (t.Entries.getD i ⟨0, 0⟩))]) rfl ?_ ?_ | refine ar_region tt_ok (inps := []) rfl ?_ ?_); rotate_left; (try refine nrm ?_); rotate_right) | refine ret3 ?_ | refine end3 ?_) | (refine ar_cond rfl trivial ?_ ?_ <;> intro hc_ <;> (try simp only [isNilI, inB, reduceCtorEq, cds] at hc_) <;> (try (first | contradiction | (exfalso; omega)))) | refine ar_until (And.intro ?_ (wk3 ?_)))
  all_goals (first | refine ar_id ?_ | (try (focus ((try refine nrmO ?_); (repeat' (first | exact True.intro | refine And.intro ?_ ?_)); all_goals (try (intro (hg_ : _ = true); (try simp only [isNilI, inB, reduceCtorEq, cds] at hg_); (repeat' (first | exact True.intro | refine And.intro ?_ ?_)))); all_goals (first | exact ob1 | skip)))))
  · have := onFrame_len frame 0 (t.Entries.take i)
    simp only [List.length_map, List.length_take, List.length_cons, List.length_nil] at *
    omega
  · rw [onFrame_take _ _ _ _ (getD_at (x := ⟨0, 0⟩) (by omega)), if_pos hc_, List.map_append, app_eq]; rfl
  · rw [onFrame_take _ _ _ _ (getD_at (x := ⟨0, 0⟩) (by omega)), if_neg (by omega), List.append_nil]
  · rw [List.take_of_length_le (by omega)]; rfl
def c_TOk (t : GTable) (frames : Int) : CFD := ⟨92, [.agg [ro 42 2 eEntry t.Entries], (SV.one (.lit (.int .i64 (frames))))], [], (TV.sv (.one (.lit (.bool (pTableOk t frames))))), [], [], []⟩
theorem fn_TOk (t : GTable) (frames : Int) (hl : t.Entries.length ≤ 1048576) : Fn Tryz.prog (c_TOk t frames) := by
  refine fn_intro tt_ok Tryz.func92 rfl Tryz.call92 Tryz.ntmps92 Tryz.results92 rfl rfl rfl rfl ?_
  intro X ρ0 hb_ hgl_
  dsimp only [c_TOk]
  try refine nrm ?_
  repeat' (refine ar_id ?_; first | refine st1 ?_ | (first | ((first | refine ar_region tt_ok (inps := []) rfl ?_ ?_); rotate_left; (try refine nrm ?_); rotate_right) | refine ret3 ?_ | refine end3 ?_) | (refine ar_cond rfl trivial ?_ ?_ <;> intro hc_ <;> (try simp only [isNilI, inB, reduceCtorEq, cds] at hc_) <;> (try (first | contradiction | (exfalso; omega)))) | refine ar_until (And.intro ?_ (wk3 ?_)))
  all_goals (first | refine ar_id ?_ | (try (focus ((try refine nrmO ?_); (repeat' (first | exact True.intro | refine And.intro ?_ ?_)); all_goals (try (intro (hg_ : _ = true); (try simp only [isNilI, inB, reduceCtorEq, cds] at hg_); (repeat' (first | exact True.intro | refine And.intro ?_ ?_)))); all_goals (first | exact ob1 | skip)))))
  refine ar_keep 119 (by dsimp only [keepS] <;> exact rfl) ?_
  refine ar_forM (t.Entries.length) (fun i => ∀ e ∈ t.Entries.take i, okE frames e) (fun i => [(5, (TV.sv (.one (.lit (.int .i64 (i))))))]) (fun i => []) ?_ ?_ ?_
  rotate_left
  · first | trivial | simp
  (dsimp only [rnCap, capSVs, Int.toNat_natCast, ro, Nat.reduceAdd, Nat.reduceMul, Nat.zero_add, List.map, putT, app, wrapG, gOb, argT, keys, slotOf, dropped, gAnd, wB, rnT, rnS, rnC, rnCs, rnSs, rnM, rnB, rnN, rn, lk, St.over, ded, delL, keepT, menT, menSs, menS, menCs, menC, hasN, resT, SV.cells]; refine wk3 ?_; (focus ((try refine nrmO ?_); (repeat' (first | exact True.intro | refine And.intro ?_ ?_)); all_goals (try (intro (hg_ : _ = true); (try simp only [isNilI, inB, reduceCtorEq, cds] at hg_); (repeat' (first | exact True.intro | refine And.intro ?_ ?_)))); all_goals (first | exact ob1 | exact rfl | skip))))
  rotate_right
  intro i hi_ hiI_
  dsimp only [rnCap, capSVs, Int.toNat_natCast, ro, Nat.reduceAdd, Nat.reduceMul, Nat.zero_add, List.map, putT, app, wrapG, gOb, argT, keys, slotOf, dropped, gAnd, wB, rnT, rnS, rnC, rnCs, rnSs, rnM, rnB, rnN, rn, lk, St.over, ded, delL, keepT, menT, menSs, menS, menCs, menC, hasN, resT, SV.cells]
  repeat' (refine ar_id ?_; first | refine st1 ?_ | (first | ((first | refine ar_region (id := 4) tt_ok (inps := [.elem (eEntry (t.Entries.getD i ⟨0, 0⟩))]) rfl ?_ ?_ | refine ar_region (id := 5) tt_ok (inps := [.call (c_In (t.Entries.getD i ⟨0, 0⟩).Mode 0 2)]) rfl ?_ ?_ | refine ar_region (id := 7) tt_ok (inps := [.call (c_In t.Entries.length 1 32)]) rfl ?_ ?_ | refine ar_region tt_ok (inps := []) rfl ?_ ?_); rotate_left; (try dsimp only [c_In]); (try refine nrm ?_); rotate_right) | refine ret3 ?_ | refine end3 ?_) | (refine ar_cond rfl trivial ?_ ?_ <;> intro hc_ <;> (try simp only [isNilI, inB, reduceCtorEq, cds] at hc_) <;> (try (first | contradiction | (exfalso; omega)))) | refine ar_until (And.intro ?_ (wk3 ?_)))
  all_goals (first | refine ar_id ?_ | (try (focus ((try refine nrmO ?_); (repeat' (first | exact True.intro | refine And.intro ?_ ?_)); all_goals (try (intro (hg_ : _ = true); (try simp only [isNilI, inB, reduceCtorEq, cds] at hg_); (repeat' (first | exact True.intro | refine And.intro ?_ ?_)))); all_goals (first | exact ob1 | exact fn_In _ _ _ | skip)))))
  · refine bf fun h => ?_
    have h1 := h.1 _ (getD_in (l := t.Entries) (i := i) (d := ⟨0, 0⟩) (by omega))
    unfold okE at h1
    omega
  · refine all_take (d := ⟨0, 0⟩) hiI_ (by omega) ?_
    unfold okE
    omega
  · refine congrArg Value.bool ?_
    have h1 := all_full hiI_ (by omega)
    unfold pTableOk
    cases h : inB (t.Entries.length : Int) 1 32
    · rw [eq_comm, decide_eq_false_iff_not]
      rintro ⟨_, h2, h3⟩
      rw [show inB (t.Entries.length : Int) 1 32 = true from inB_iff.2 ⟨by omega, by omega⟩] at h
      cases h
    · have := inB_iff.1 h
      rw [eq_comm, decide_eq_true_iff]
      exact ⟨h1, by omega, by omega⟩
end Eng
end Go.Proofs.YtabnglcabpijfaaGreatDoor
namespace Go.Proofs.YtabnglcabpijfaaGreatDoor
open Go.RowKit
set_option linter.unusedVariables false
namespace Tr
/-- the used frames are exactly those to which pages are mapped -/
def usedAre (m : GMachine) : Prop := ∀ i, i < m.Frames.Used.length → m.Frames.Used[i]? = some (decide (0 < (pPagesOn m.Table (i : Int)).length))
instance (m : GMachine) : Decidable (usedAre m) := by unfold usedAre; infer_instance
def okM (m : GMachine) : Prop := okF m.Frames ∧ pTableOk m.Table (m.Frames.Cells.length : Int) = true ∧ usedAre m
instance (m : GMachine) : Decidable (okM m) := by unfold okM; infer_instance
def pMachineOk (m : GMachine) : Bool := decide (okM m)
/-- the entry of an address, and its offset -/
def pEntry (m : GMachine) (addr : Int) : GEntry × Int := if addr < 0 then (⟨0, 0⟩, 0) else (pPageEntry m.Table (addr / 16), addr % 16)
def canLoad (m : GMachine) (addr : Int) : Prop := okM m ∧ (pEntry m addr).1.Mode ≠ 0
instance (m : GMachine) (addr : Int) : Decidable (canLoad m addr) := by unfold canLoad; infer_instance
def cellOf (m : GMachine) (f k : Int) : Int := (m.Frames.Cells.getD f.toNat []).getD k.toNat 0
def setCellOf (m : GMachine) (f k v : Int) : GMachine := ⟨⟨m.Frames.Cells.set f.toNat ((m.Frames.Cells.getD f.toNat []).set k.toNat v), m.Frames.Used⟩, m.Table⟩
def pStore (m : GMachine) (addr v : Int) : GMachine × Int :=
  if canLoad m addr then
    if (pEntry m addr).1.Mode = 1 then (m, 2)
    else if 0 ≤ v ∧ v ≤ 999 then (setCellOf m (pEntry m addr).1.Frame (pEntry m addr).2 v, 0) else (m, 3)
  else (m, 1)
/-- a mapped entry of a valid machine: its frame is there -/
theorem okM_entry {m : GMachine} (h : okM m) {page : Int} (hm : (pPageEntry m.Table page).Mode ≠ 0) : ∃ f : Nat, (pPageEntry m.Table page).Frame = (f : Int) ∧ f < m.Frames.Cells.length ∧ f < m.Frames.Used.length ∧ (m.Frames.Cells.getD f []).length = 16 ∧ m.Frames.Cells[f]? = some (m.Frames.Cells.getD f []) := by
  obtain ⟨h1, h2, _⟩ := h
  unfold pTableOk at h2
  rw [decide_eq_true_iff] at h2
  have he : pPageEntry m.Table page ∈ m.Table.Entries ∨ pPageEntry m.Table page = ⟨0, 0⟩ := by
    unfold pPageEntry
    split
    · rename_i hp
      left
      rw [List.getD_eq_getElem?_getD, List.getElem?_eq_getElem (by omega)]
      exact List.getElem_mem _
    · right; rfl
  rcases he with he | he
  · rcases h2.1 _ he with ⟨h0, _⟩ | ⟨_, h3, h4⟩
    · exact absurd h0 hm
    · obtain ⟨f, hf⟩ := Int.eq_ofNat_of_zero_le h3
      have hl : f < m.Frames.Cells.length := by rw [hf] at h4; omega
      have hu : f < m.Frames.Used.length := by rw [h1.2.1]; exact hl
      have hr : m.Frames.Cells[f]? = some (m.Frames.Cells.getD f []) := by rw [List.getD_eq_getElem?_getD, List.getElem?_eq_getElem hl]; rfl
      exact ⟨f, hf, hl, hu, (h1.2.2 _ (List.mem_of_getElem? (zip_at hr (List.getElem?_eq_getElem hu)))).1, hr⟩
  · rw [he] at hm; exact absurd rfl hm
/-- where the cell of an address lies that can be loaded -/
theorem load_at {m : GMachine} {addr : Int} (h : canLoad m addr) : 0 ≤ addr ∧ ∃ (f k : Nat) (r : List Int), (pEntry m addr).1.Frame = (f : Int) ∧ (pEntry m addr).2 = (k : Int) ∧ k < 16 ∧ f < m.Frames.Cells.length ∧ f < m.Frames.Used.length ∧ m.Frames.Cells[f]? = some r ∧ r.length = 16 := by
  obtain ⟨h1, h2⟩ := h
  by_cases ha : addr < 0
  · unfold pEntry at h2
    rw [if_pos ha] at h2
    exact absurd rfl h2
  · unfold pEntry at h2 ⊢
    rw [if_neg ha] at h2 ⊢
    obtain ⟨f, hf, hl, hu, hr, hrow⟩ := okM_entry h1 h2
    exact ⟨by omega, f, (addr % 16).toNat, _, hf, by show addr % 16 = _; omega, by omega, hl, hu, hrow, hr⟩
end Tr
end Go.Proofs.YtabnglcabpijfaaGreatDoor
namespace Go.Proofs.YtabnglcabpijfaaGreatDoor
open Go.RowKit
set_option linter.unusedVariables false
set_option linter.unusedSimpArgs false
set_option maxRecDepth 100000
namespace Eng
open Tr
/-- a machine that can be read: its slices are not too long -/
structure szM7 (m : GMachine) : Prop where
  c : m.Frames.Cells.length ≤ 1048576
  u : m.Frames.Used.length ≤ 1048576
  r : ∀ r ∈ m.Frames.Cells, r.length ≤ 1048576
  e : m.Table.Entries.length ≤ 1048576
def c_MOk (m : GMachine) : CFD := ⟨53, [.agg [ro 33 1 eIntS m.Frames.Cells, ro 4 1 Tr.eB m.Frames.Used, ro 42 2 eEntry m.Table.Entries]], [], (TV.sv (.one (.lit (.bool (pMachineOk m))))), [], [], []⟩
theorem fn_MOk (m : GMachine) (hs : szM7 m) : Fn Tryz.prog (c_MOk m) := by
  refine fn_intro tt_ok Tryz.func53 rfl Tryz.call53 Tryz.ntmps53 Tryz.results53 rfl rfl rfl rfl ?_
  intro X ρ0 hb_ hgl_
  dsimp only [c_MOk]
  try refine nrm ?_
  repeat' (refine ar_id ?_; first | refine st1 ?_ | (first | ((first | refine ar_region (id := 1) tt_ok (inps := [.call (c_Ok5 m.Frames), .call (c_TOk m.Table m.Frames.Cells.length)]) rfl ?_ ?_ | refine ar_region tt_ok (inps := []) rfl ?_ ?_); rotate_left; (try dsimp only [c_Ok5, c_TOk]); (try refine nrm ?_); rotate_right) | refine ret3 ?_ | refine end3 ?_) | (refine ar_cond rfl trivial ?_ ?_ <;> intro hc_ <;> (try simp only [isNilI, inB, reduceCtorEq, cds] at hc_) <;> (try (first | contradiction | (exfalso; omega)))) | refine ar_until (And.intro ?_ (wk3 ?_)))
  all_goals (first | refine ar_id ?_ | (try (focus ((try refine nrmO ?_); (repeat' (first | exact True.intro | refine And.intro ?_ ?_)); all_goals (try (intro (hg_ : _ = true); (try simp only [isNilI, inB, reduceCtorEq, cds] at hg_); (repeat' (first | exact True.intro | refine And.intro ?_ ?_)))); all_goals (first | exact ob1 | exact fn_Ok5 _ hs.c hs.u hs.r | exact fn_TOk _ _ hs.e | skip)))))
  · refine bf fun h => ?_
    rcases hc_ with hc_ | hc_
    · rw [show pFramesOk m.Frames = true from decide_eq_true h.1] at hc_; cases hc_
    · rw [h.2.1] at hc_; cases hc_
  have hok := of_decide_eq_true hc_.1
  have htk := hc_.2
  have hu := hs.u
  refine ar_keep 15 (by dsimp only [keepS] <;> exact rfl) ?_
  refine ar_forM (m.Frames.Used.length) (fun i => ∀ j, j < i → m.Frames.Used[j]? = some (decide (0 < (pPagesOn m.Table (j : Int)).length))) (fun i => [(3, (TV.sv (.one (.lit (.int .i64 (i))))))]) (fun i => []) ?_ ?_ ?_
  rotate_left
  · first | trivial | simp
  (dsimp only [rnCap, capSVs, Int.toNat_natCast, ro, Nat.reduceAdd, Nat.reduceMul, Nat.zero_add, List.map, putT, app, wrapG, gOb, argT, keys, slotOf, dropped, gAnd, wB, rnT, rnS, rnC, rnCs, rnSs, rnM, rnB, rnN, rn, lk, St.over, ded, delL, keepT, menT, menSs, menS, menCs, menC, hasN, resT, SV.cells]; refine wk3 ?_; (focus ((try refine nrmO ?_); (repeat' (first | exact True.intro | refine And.intro ?_ ?_)); all_goals (try (intro (hg_ : _ = true); (try simp only [isNilI, inB, reduceCtorEq, cds] at hg_); (repeat' (first | exact True.intro | refine And.intro ?_ ?_)))); all_goals (first | exact ob1 | exact rfl | skip))))
  rotate_right
  intro i hi_ hiI_
  dsimp only [rnCap, capSVs, Int.toNat_natCast, ro, Nat.reduceAdd, Nat.reduceMul, Nat.zero_add, List.map, putT, app, wrapG, gOb, argT, keys, slotOf, dropped, gAnd, wB, rnT, rnS, rnC, rnCs, rnSs, rnM, rnB, rnN, rn, lk, St.over, ded, delL, keepT, menT, menSs, menS, menCs, menC, hasN, resT, SV.cells]
  repeat' (refine ar_id ?_; first | refine st1 ?_ | (first | ((first | refine ar_draw (id := 6) (inps := [.elem (Tr.eB (m.Frames.Used.getD i false)), .call (c_PagesOn m.Table i)]) tt_ok (by kernel_rfl) rfl rfl (by kernel_rfl) rfl rfl rfl rfl ?_ ?_ | refine ar_region tt_ok (inps := []) rfl ?_ ?_); rotate_left; (try dsimp only [c_PagesOn]); (try refine nrm ?_); rotate_right) | refine ret3 ?_ | refine end3 ?_) | (refine ar_cond rfl trivial ?_ ?_ <;> intro hc_ <;> (try simp only [isNilI, inB, reduceCtorEq, cds] at hc_) <;> (try (first | contradiction | (exfalso; omega)))) | refine ar_until (And.intro ?_ (wk3 ?_)))
  all_goals (first | refine ar_id ?_ | (try (focus ((try refine nrmO ?_); (repeat' (first | exact True.intro | refine And.intro ?_ ?_)); all_goals (try (intro (hg_ : _ = true); (try simp only [isNilI, inB, reduceCtorEq, cds] at hg_); (repeat' (first | exact True.intro | refine And.intro ?_ ?_)))); all_goals (first | exact ob1 | exact fn_PagesOn _ _ hs.e | skip)))))
  · exact bf fun h => hc_ (by
      have h1 := h.2.2 i (by omega)
      rw [getD_at (x := false) (by omega)] at h1
      rw [Option.some.inj h1]
      exact decide_eq_decide.2 (by omega))
  · intro j hj
    rcases Nat.lt_succ_iff_lt_or_eq.1 hj with hj | rfl
    · exact hiI_ j hj
    · rw [getD_at (x := false) (by omega), hc_]
      exact congrArg some (decide_eq_decide.2 (by omega))
  · exact bt ⟨hok, htk, fun j hj => hiI_ j (by omega)⟩
def c_Copy7 (m : GMachine) : CFD := ⟨103, [.agg [ro 33 1 eIntS m.Frames.Cells, ro 4 1 Tr.eB m.Frames.Used, ro 42 2 eEntry m.Table.Entries]], [], .sv (.agg [.hd 0, .hd 1, .hd 2]),
  [(0, some (.row 33 1 (m.Frames.Cells.map eIntS))), (1, some (.row 4 1 (m.Frames.Used.map Tr.eB))), (2, some (.row 42 2 (m.Table.Entries.map eEntry)))], [0, 1, 2], []⟩
theorem fn_Copy7 (m : GMachine) (hs : szM7 m) : Fn Tryz.prog (c_Copy7 m) := by
  refine fn_intro tt_ok Tryz.func103 rfl Tryz.call103 Tryz.ntmps103 Tryz.results103 rfl rfl rfl rfl ?_
  intro X ρ0 hb_ hgl_
  dsimp only [c_Copy7]
  try refine nrm ?_
  repeat' (refine ar_id ?_; first | refine st1 ?_ | (first | ((first | refine ar_draw (id := 1) (inps := [.call (c_Copy5 m.Frames), .call (c_Copy6 m.Table)]) tt_ok (by kernel_rfl) rfl rfl (by kernel_rfl) rfl rfl rfl rfl ?_ ?_ | refine ar_region tt_ok (inps := []) rfl ?_ ?_); rotate_left; (try dsimp only [c_Copy5, c_Copy6]); (try refine nrm ?_); rotate_right) | refine ret3 ?_ | refine end3 ?_) | (refine ar_cond rfl trivial ?_ ?_ <;> intro hc_ <;> (try simp only [isNilI, inB, reduceCtorEq, cds] at hc_) <;> (try (first | contradiction | (exfalso; omega)))) | refine ar_until (And.intro ?_ (wk3 ?_)))
  all_goals (first | refine ar_id ?_ | (try (focus ((try refine nrmO ?_); (repeat' (first | exact True.intro | refine And.intro ?_ ?_)); all_goals (try (intro (hg_ : _ = true); (try simp only [isNilI, inB, reduceCtorEq, cds] at hg_); (repeat' (first | exact True.intro | refine And.intro ?_ ?_)))); all_goals (first | exact ob1 | exact fn_Copy5 _ hs.c hs.u hs.r | exact fn_Copy6 _ hs.e | skip)))))
end Eng
end Go.Proofs.YtabnglcabpijfaaGreatDoor
namespace Go.Proofs.YtabnglcabpijfaaGreatDoor
open Go.RowKit
set_option linter.unusedVariables false
set_option linter.unusedSimpArgs false
set_option maxRecDepth 100000
namespace Eng
open Tr
def c_Entry7 (m : GMachine) (addr : Int) : CFD := ⟨52, [.agg [ro 33 1 eIntS m.Frames.Cells, ro 4 1 Tr.eB m.Frames.Used, ro 42 2 eEntry m.Table.Entries], (SV.one (.lit (.int .i64 (addr))))], [], .tup [.agg [(CV.lit (.int .i64 ((pEntry m addr).1.Mode))), (CV.lit (.int .i64 ((pEntry m addr).1.Frame)))], (SV.one (.lit (.int .i64 ((pEntry m addr).2))))], [], [], []⟩
theorem fn_Entry7 (m : GMachine) (addr : Int) (hs : szM7 m) (ha : addr ≤ 9223372036854775807) : Fn Tryz.prog (c_Entry7 m addr) := by
  have hse := hs.e
  refine fn_intro tt_ok Tryz.func52 rfl Tryz.call52 Tryz.ntmps52 Tryz.results52 rfl rfl rfl rfl ?_
  intro X ρ0 hb_ hgl_
  dsimp only [c_Entry7]
  try refine nrm ?_
  repeat' (refine ar_id ?_; first | refine st1 ?_ | (first | ((first | refine ar_region (id := 3) tt_ok (inps := [.call (c_PageEntry m.Table (addr.tdiv 16))]) rfl ?_ ?_ | refine ar_region tt_ok (inps := []) rfl ?_ ?_); rotate_left; (try dsimp only [c_PageEntry]); (try refine nrm ?_); rotate_right) | refine ret3 ?_ | refine end3 ?_) | (refine ar_cond rfl trivial ?_ ?_ <;> intro hc_ <;> (try simp only [isNilI, inB, reduceCtorEq, cds] at hc_) <;> (try (first | contradiction | (exfalso; omega)))) | refine ar_until (And.intro ?_ (wk3 ?_)))
  all_goals (first | refine ar_id ?_ | (try (focus ((try refine nrmO ?_); (repeat' (first | exact True.intro | refine And.intro ?_ ?_)); all_goals (try (intro (hg_ : _ = true); (try simp only [isNilI, inB, reduceCtorEq, cds] at hg_); (repeat' (first | exact True.intro | refine And.intro ?_ ?_)))); all_goals (first | exact ob1 | exact fn_PageEntry _ _ hse | skip)))))
  all_goals first
    | (unfold pEntry; rw [if_pos (by assumption)]; done)
    | (rw [Int.tdiv_eq_ediv_of_nonneg (by assumption)]; exact i64_ok (by omega) (by omega))
    | (unfold pEntry; rw [if_neg (by omega), Int.tdiv_eq_ediv_of_nonneg (by assumption)]; done)
    | (unfold pEntry; rw [if_neg (by omega), Int.tmod_eq_emod_of_nonneg (by assumption)]; done)
def c_EntR (m : GMachine) (addr md fr k : Int) : CFD := ⟨52, [.agg [ro 33 1 eIntS m.Frames.Cells, ro 4 1 Tr.eB m.Frames.Used, ro 42 2 eEntry m.Table.Entries], (SV.one (.lit (.int .i64 (addr))))], [], .tup [.agg [(CV.lit (.int .i64 (md))), (CV.lit (.int .i64 (fr)))], (SV.one (.lit (.int .i64 (k))))], [], [], []⟩
theorem fn_EntR (m : GMachine) (addr md fr k : Int) (hs : szM7 m) (ha : addr ≤ 9223372036854775807) (h1 : (pEntry m addr).1.Mode = md) (h2 : (pEntry m addr).1.Frame = fr) (h3 : (pEntry m addr).2 = k) : Fn Tryz.prog (c_EntR m addr md fr k) := by
  subst h1 h2 h3; exact fn_Entry7 m addr hs ha
def c_Store7 (m : GMachine) (addr v : Int) (m' : GMachine) : CFD := ⟨83, [.agg [ro 33 1 eIntS m.Frames.Cells, ro 4 1 Tr.eB m.Frames.Used, ro 42 2 eEntry m.Table.Entries], (SV.one (.lit (.int .i64 (addr)))), (SV.one (.lit (.int .i64 (v))))], [], .tup [.agg [.hd 0, .hd 1, .hd 2], (SV.one (.lit (.int .i64 (0))))], [(0, some (.row 33 1 ((m').Frames.Cells.map eIntS))), (1, some (.row 4 1 ((m').Frames.Used.map Tr.eB))), (2, some (.row 42 2 ((m').Table.Entries.map eEntry)))], [0, 1, 2], []⟩
/-- a store that is made -/
theorem fn_Store7 (m : GMachine) (addr v : Int) (hs : szM7 m) (ha : addr ≤ 9223372036854775807) (hC : canLoad m addr) (h2 : (pEntry m addr).1.Mode = 2) (hv : 0 ≤ v ∧ v ≤ 999) : Fn Tryz.prog (c_Store7 m addr v (setCellOf m (pEntry m addr).1.Frame (pEntry m addr).2 v)) := by
  obtain ⟨_, f, k, r, hf, hk, h1, h2', _, h3, h4⟩ := load_at hC
  have hok : pMachineOk m = true := decide_eq_true hC.1
  have hr : m.Frames.Cells.getD f [] = r := by rw [List.getD_eq_getElem?_getD, h3]; rfl
  have h5 : (m.Frames.Cells.getD f []).length = 16 := by rw [hr]; exact h4
  rw [hf, hk]
  refine fn_intro tt_ok Tryz.func83 rfl Tryz.call83 Tryz.ntmps83 Tryz.results83 rfl rfl rfl rfl ?_
  intro X ρ0 hb_ hgl_
  dsimp only [c_Store7]
  try refine nrm ?_
  repeat' (refine ar_id ?_; first | refine st1 ?_ | (first | ((first | refine ar_region (id := 1) tt_ok (inps := [.call (c_Copy7 m)]) rfl ?_ ?_ | refine ar_region (id := 2) tt_ok (inps := [.call (c_EntR m addr 2 f k)]) rfl ?_ ?_ | refine ar_region (id := 3) tt_ok (inps := [.call (c_MOk m)]) rfl ?_ ?_ | refine ar_region (id := 7) tt_ok (inps := [.call (c_In v 0 999)]) rfl ?_ ?_ | refine ar_region tt_ok (inps := []) rfl ?_ ?_); rotate_left; (try dsimp only [c_Copy7, c_EntR, c_In, c_MOk]); (try refine nrm ?_); rotate_right) | refine ret3 ?_ | refine end3 ?_) | (refine ar_cond rfl trivial ?_ ?_ <;> intro hc_ <;> (try simp only [isNilI, inB, reduceCtorEq, cds] at hc_) <;> (try (first | contradiction | (exfalso; omega) | (exfalso; grind)))) | refine ar_until (And.intro ?_ (wk3 ?_)))
  all_goals (first | refine ar_id ?_ | (try (focus ((try refine nrmO ?_); (repeat' (first | exact True.intro | refine And.intro ?_ ?_)); all_goals (try (intro (hg_ : _ = true); (try simp only [isNilI, inB, reduceCtorEq, cds] at hg_); (repeat' (first | exact True.intro | refine And.intro ?_ ?_)))); all_goals (first | exact ob1 | exact fn_Copy7 m hs | exact fn_EntR m addr _ _ _ hs ha h2 hf hk | exact fn_MOk m hs | exact fn_In _ _ _ | skip)))))
  refine ar_open 13000 f 0 90001 90002 (d := eIntS (m.Frames.Cells.getD f [])) ((m.Frames.Cells.getD f []).map eI) rfl ?_ rfl ?_ rfl rfl rfl ?_
  · first | exact map_at (by omega) | assumption | exact set_at (by (try simp only [List.length_map, List.length_set]); omega) | (rw [List.getElem?_set_ne (by omega)]; exact map_at (by omega))
  · exact ⟨rfl, rfl, by intro e he; simp only [List.mem_map] at he; obtain ⟨_, _, rfl⟩ := he; rfl⟩
  intro A_90001 n_90001 c_90001
  try refine nrm ?_
  refine ar_region (id := 9) tt_ok (inps := [.nest (.lit (Value.slice A_90001 n_90001 c_90001) .nil) [(0, 90002)], .elem (eI ((m.Frames.Cells.getD f []).getD k 0))]) rfl ?_ ?_
  rotate_left
  (try refine nrm ?_)
  refine ar_close 13000 f 0 90001 90002 rfl rfl rfl (set_at ?_) rfl rfl rfl ?_
  · (simp only [List.length_map, List.length_set]; omega)
  try refine nrm ?_
  repeat' (refine ar_id ?_; first | refine st1 ?_ | (first | ((first | refine ar_region tt_ok (inps := []) rfl ?_ ?_); rotate_left; (try refine nrm ?_); rotate_right) | refine ret3 ?_ | refine end3 ?_) | (refine ar_cond rfl trivial ?_ ?_ <;> intro hc_ <;> (try simp only [isNilI, inB, reduceCtorEq, cds] at hc_) <;> (try (first | contradiction | (exfalso; omega)))) | refine ar_until (And.intro ?_ (wk3 ?_)))
  all_goals (first | refine ar_id ?_ | (try (focus ((try refine nrmO ?_); (repeat' (first | exact True.intro | refine And.intro ?_ ?_)); all_goals (try (intro (hg_ : _ = true); (try simp only [isNilI, inB, reduceCtorEq, cds] at hg_); (repeat' (first | exact True.intro | refine And.intro ?_ ?_)))); all_goals (first | exact ob1 | skip)))))
  all_goals (try (focus ((try refine nrmO ?_); (repeat' (first | exact True.intro | refine And.intro ?_ ?_)); all_goals (try (intro (hg_ : _ = true); (try simp only [isNilI, inB, reduceCtorEq, cds] at hg_); (repeat' (first | exact True.intro | refine And.intro ?_ ?_)))); all_goals (first | exact ob1 | skip))))
  · have hset : ((m.Frames.Cells.getD f []).map eI).set k (dPut (eI ((m.Frames.Cells.getD f []).getD k 0)) 0 (D.lit (.int .i64 v) .nil)) = ((m.Frames.Cells.getD f []).set k v).map eI := List.map_set.symm
    rw [List.set_set, hset]
    exact (congrArg (List.set (m.Frames.Cells.map eIntS) f) (show _ = eIntS ((m.Frames.Cells.getD f []).set k v) from rfl)).trans List.map_set.symm
  · rfl
  · rfl
end Eng
end Go.Proofs.YtabnglcabpijfaaGreatDoor
namespace Go.Proofs.YtabnglcabpijfaaGreatDoor
open Go.RowKit
set_option linter.unusedVariables false
set_option linter.unusedSimpArgs false
set_option maxRecDepth 100000
namespace Eng
open Tr
def nF (x : GFrames) : Nat := (x.Cells.length + cntII x.Cells) + x.Used.length
def cF (x : GFrames) : Nat := cntII x.Cells + x.Used.length
structure smF (x : GFrames) : Prop where
  hCells : x.Cells.length ≤ 1048576 ∧ ∀ r ∈ x.Cells, r.length ≤ 1048576
  hUsed : x.Used.length ≤ 1048576
structure mxF (x : GFrames) : Prop where
  hCells : x.Cells.length ≤ 9223372036854775807 ∧ ∀ r ∈ x.Cells, r.length ≤ 9223372036854775807
  hUsed : x.Used.length ≤ 9223372036854775807
theorem F_sm {x : GFrames} (h : nF x ≤ 1048576) : smF x := by
  unfold nF at h
  exact ⟨⟨by omega, fun r hr => Nat.le_trans (cntII_mem hr) (by omega)⟩, by omega⟩
theorem F_cn (x : GFrames) : cF x ≤ 2 * nF x := by
  unfold cF nF
  omega
def c_szF (x : GFrames) (a v : Int) : CFD := ⟨101, [.agg [ro 33 1 eIntS x.Cells, ro 4 1 Tr.eB x.Used], (SV.one (.lit (.int .i64 (a))))], [], (TV.sv (.one (.lit (.int .i64 (v))))), [], [], []⟩
theorem fn_szF (x : GFrames) (a v : Int) (hm : mxF x) (ha : 0 ≤ a ∧ a ≤ 1048576) (hv : v = if a - (nF x : Int) < 0 then -1 else a - (nF x : Int)) : Fn Tryz.prog (c_szF x a v) := by
  by_cases h0_ : a - (((x.Cells.length + cntII x.Cells) : Nat) : Int) < 0
  · have hvv : v = -1 := by rw [hv, if_pos (by unfold nF; omega)]
    refine fn_intro tt_ok Tryz.func101 rfl Tryz.call101 Tryz.ntmps101 Tryz.results101 rfl rfl rfl rfl ?_
    intro X ρ0 hb_ hgl_
    dsimp only [c_szF]
    try refine nrm ?_
    rw [hvv]
    repeat' (refine ar_id ?_; first | refine st1 ?_ | (first | ((first | refine ar_region (id := 1) tt_ok (inps := [.call (c_szII x.Cells (a) (-1))]) rfl ?_ ?_ | refine ar_region tt_ok (inps := []) rfl ?_ ?_); rotate_left; (try dsimp only [c_szII]); (try refine nrm ?_); rotate_right) | refine ret3 ?_ | refine end3 ?_) | (refine ar_cond rfl trivial ?_ ?_ <;> intro hc_ <;> (try simp only [isNilI, inB, reduceCtorEq, cds] at hc_) <;> (try (first | contradiction | (exfalso; omega)))) | refine ar_until (And.intro ?_ (wk3 ?_)))
    all_goals (first | refine ar_id ?_ | (try (focus ((try refine nrmO ?_); (repeat' (first | exact True.intro | refine And.intro ?_ ?_)); all_goals (try (intro (hg_ : _ = true); (try simp only [isNilI, inB, reduceCtorEq, cds] at hg_); (repeat' (first | exact True.intro | refine And.intro ?_ ?_)))); all_goals (first | exact ob1 | exact fn_szII _ _ _ hm.hCells.1 hm.hCells.2 (by omega) (by rw [if_pos h0_]) | skip)))))
  · skip
    refine fn_intro tt_ok Tryz.func101 rfl Tryz.call101 Tryz.ntmps101 Tryz.results101 rfl rfl rfl rfl ?_
    intro X ρ0 hb_ hgl_
    dsimp only [c_szF]
    try refine nrm ?_
    repeat' (refine ar_id ?_; first | refine st1 ?_ | (first | ((first | refine ar_region (id := 1) tt_ok (inps := [.call (c_szII x.Cells (a) (a - (((x.Cells.length + cntII x.Cells) : Nat) : Int)))]) rfl ?_ ?_ | refine ar_region (id := 4) tt_ok (inps := [.call (c_szB x.Used (a - (((x.Cells.length + cntII x.Cells) : Nat) : Int)) (v))]) rfl ?_ ?_ | refine ar_region tt_ok (inps := []) rfl ?_ ?_); rotate_left; (try dsimp only [c_szB, c_szII]); (try refine nrm ?_); rotate_right) | refine ret3 ?_ | refine end3 ?_) | (refine ar_cond rfl trivial ?_ ?_ <;> intro hc_ <;> (try simp only [isNilI, inB, reduceCtorEq, cds] at hc_) <;> (try (first | contradiction | (exfalso; omega)))) | refine ar_until (And.intro ?_ (wk3 ?_)))
    all_goals (first | refine ar_id ?_ | (try (focus ((try refine nrmO ?_); (repeat' (first | exact True.intro | refine And.intro ?_ ?_)); all_goals (try (intro (hg_ : _ = true); (try simp only [isNilI, inB, reduceCtorEq, cds] at hg_); (repeat' (first | exact True.intro | refine And.intro ?_ ?_)))); all_goals (first | exact ob1 | exact fn_szII _ _ _ hm.hCells.1 hm.hCells.2 (by omega) (by rw [if_neg h0_]) | exact fn_szB _ _ _ hm.hUsed (by omega) (by rw [hv]; unfold nF; first | rfl | (split <;> split <;> omega)) | skip)))))
    all_goals (rw [hv]; unfold nF; split <;> first | rfl | omega | (congr 1; omega))
def c_toF (x : GFrames) : CFD := ⟨111, [.agg [ro 33 1 eIntS x.Cells, ro 4 1 Tr.eB x.Used]], [], .sv (.agg [.hd 0, .hd 1]), [(0, some (.row 33 1 (x.Cells.map eIntS))), (1, some (.row 4 1 (x.Used.map Tr.eB)))], [0, 1], []⟩
theorem fn_toF (x : GFrames) (h : smF x) : Fn Tryz.prog (c_toF x) := by
  refine fn_intro tt_ok Tryz.func111 rfl Tryz.call111 Tryz.ntmps111 Tryz.results111 rfl rfl rfl rfl ?_
  intro X ρ0 hb_ hgl_
  dsimp only [c_toF]
  try refine nrm ?_
  repeat' (refine ar_id ?_; first | refine st1 ?_ | (first | ((first | refine ar_region (id := 2) tt_ok (inps := [.call (c_toII x.Cells)]) rfl ?_ ?_ | refine ar_region (id := 3) tt_ok (inps := [.call (c_toB x.Used)]) rfl ?_ ?_ | refine ar_region tt_ok (inps := []) rfl ?_ ?_); rotate_left; (try dsimp only [c_toB, c_toII]); (try refine nrm ?_); rotate_right) | refine ret3 ?_ | refine end3 ?_) | (refine ar_cond rfl trivial ?_ ?_ <;> intro hc_ <;> (try simp only [isNilI, inB, reduceCtorEq, cds] at hc_) <;> (try (first | contradiction | (exfalso; omega)))) | refine ar_until (And.intro ?_ (wk3 ?_)))
  all_goals (first | refine ar_id ?_ | (try (focus ((try refine nrmO ?_); (repeat' (first | exact True.intro | refine And.intro ?_ ?_)); all_goals (try (intro (hg_ : _ = true); (try simp only [isNilI, inB, reduceCtorEq, cds] at hg_); (repeat' (first | exact True.intro | refine And.intro ?_ ?_)))); all_goals (first | exact ob1 | exact fn_toII _ h.hCells.1 h.hCells.2 | exact fn_toB _ h.hUsed | skip)))))
def c_eqF (x : GFrames) : CFD := ⟨113, [.agg [ro 33 1 eIntS x.Cells, ro 4 1 Tr.eB x.Used], .agg [ro 33 1 eIntS x.Cells, ro 4 1 Tr.eB x.Used]], [], (TV.sv (.one (.lit (.bool (true))))), [], [], []⟩
theorem fn_eqF (x : GFrames) (h : smF x) : Fn Tryz.prog (c_eqF x) := by
  refine fn_intro tt_ok Tryz.func113 rfl Tryz.call113 Tryz.ntmps113 Tryz.results113 rfl rfl rfl rfl ?_
  intro X ρ0 hb_ hgl_
  dsimp only [c_eqF]
  try refine nrm ?_
  repeat' (refine ar_id ?_; first | refine st1 ?_ | (first | ((first | refine ar_region (id := 1) tt_ok (inps := [.call (c_eqII x.Cells)]) rfl ?_ ?_ | refine ar_region (id := 3) tt_ok (inps := [.call (c_eqB x.Used)]) rfl ?_ ?_ | refine ar_region tt_ok (inps := []) rfl ?_ ?_); rotate_left; (try dsimp only [c_eqB, c_eqII]); (try refine nrm ?_); rotate_right) | refine ret3 ?_ | refine end3 ?_) | (refine ar_cond rfl trivial ?_ ?_ <;> intro hc_ <;> (try simp only [isNilI, inB, reduceCtorEq, cds] at hc_) <;> (try (first | contradiction | (exfalso; omega)))) | refine ar_until (And.intro ?_ (wk3 ?_)))
  all_goals (first | refine ar_id ?_ | (try (focus ((try refine nrmO ?_); (repeat' (first | exact True.intro | refine And.intro ?_ ?_)); all_goals (try (intro (hg_ : _ = true); (try simp only [isNilI, inB, reduceCtorEq, cds] at hg_); (repeat' (first | exact True.intro | refine And.intro ?_ ?_)))); all_goals (first | exact ob1 | exact fn_eqII _ h.hCells.1 h.hCells.2 | exact fn_eqB _ h.hUsed | skip)))))
def c_markF (x : GFrames) (k : Nat) : CFD := ⟨115, [.agg [.hd 700, .hd 701], (SV.one (.lit (.int .i64 ((k : Int)))))], [(700, some (.row 33 1 (x.Cells.map eIntS))), (701, some (.row 4 1 (x.Used.map Tr.eB)))], (TV.sv (.one (.lit (.int .i64 (((k + cF x : Nat) : Int)))))), [(700, some (.row 33 1 ((mkII (k) x.Cells).map eIntS))), (701, some (.row 4 1 ((mkB (k + cntII x.Cells) x.Used.length).map Tr.eB)))], [], []⟩
theorem fn_markF (x : GFrames) (k : Nat) (h : smF x) (hk : k + cF x ≤ 100000000) : Fn Tryz.prog (c_markF x k) := by
  unfold cF at hk
  refine fn_intro tt_ok Tryz.func115 rfl Tryz.call115 Tryz.ntmps115 Tryz.results115 rfl rfl rfl rfl ?_
  intro X ρ0 hb_ hgl_
  dsimp only [c_markF]
  try refine nrm ?_
  repeat' (refine ar_id ?_; first | refine st1 ?_ | (first | ((first | refine ar_region (id := 1) tt_ok (inps := [.call (c_markII x.Cells (k))]) rfl ?_ ?_ | refine ar_region (id := 2) tt_ok (inps := [.call (c_markB x.Used (k + cntII x.Cells))]) rfl ?_ ?_ | refine ar_region tt_ok (inps := []) rfl ?_ ?_); rotate_left; (try dsimp only [c_markB, c_markII]); (try refine nrm ?_); rotate_right) | refine ret3 ?_ | refine end3 ?_) | (refine ar_cond rfl trivial ?_ ?_ <;> intro hc_ <;> (try simp only [isNilI, inB, reduceCtorEq, cds] at hc_) <;> (try (first | contradiction | (exfalso; omega)))) | refine ar_until (And.intro ?_ (wk3 ?_)))
  all_goals (first | refine ar_id ?_ | (try (focus ((try refine nrmO ?_); (repeat' (first | exact True.intro | refine And.intro ?_ ?_)); all_goals (try (intro (hg_ : _ = true); (try simp only [isNilI, inB, reduceCtorEq, cds] at hg_); (repeat' (first | exact True.intro | refine And.intro ?_ ?_)))); all_goals (first | exact ob1 | exact fn_markII _ _ h.hCells.1 h.hCells.2 (by omega) | exact fn_markB _ _ h.hUsed (by omega) | skip)))))
  all_goals (unfold cF; first | rfl | (rw [Nat.add_assoc]; done) | (simp only [Nat.add_assoc]; done))
def c_heldF (x : GFrames) (k : Nat) : CFD := ⟨117, [.agg [ro 33 1 eIntS (mkII (k) x.Cells), ro 4 1 Tr.eB (mkB (k + cntII x.Cells) x.Used.length)], (SV.one (.lit (.int .i64 ((k : Int)))))], [], (TV.sv (.one (.lit (.int .i64 (((k + cF x : Nat) : Int)))))), [], [], []⟩
theorem fn_heldF (x : GFrames) (k : Nat) (h : smF x) (hk : k + cF x ≤ 100000000) : Fn Tryz.prog (c_heldF x k) := by
  unfold cF at hk
  refine fn_intro tt_ok Tryz.func117 rfl Tryz.call117 Tryz.ntmps117 Tryz.results117 rfl rfl rfl rfl ?_
  intro X ρ0 hb_ hgl_
  dsimp only [c_heldF]
  try refine nrm ?_
  repeat' (refine ar_id ?_; first | refine st1 ?_ | (first | ((first | refine ar_region (id := 1) tt_ok (inps := [.call (c_heldII x.Cells (k))]) rfl ?_ ?_ | refine ar_region (id := 4) tt_ok (inps := [.call (c_heldB x.Used.length (k + cntII x.Cells))]) rfl ?_ ?_ | refine ar_region tt_ok (inps := []) rfl ?_ ?_); rotate_left; (try dsimp only [c_heldB, c_heldII]); (try refine nrm ?_); rotate_right) | refine ret3 ?_ | refine end3 ?_) | (refine ar_cond rfl trivial ?_ ?_ <;> intro hc_ <;> (try simp only [isNilI, inB, reduceCtorEq, cds] at hc_) <;> (try (first | contradiction | (exfalso; omega)))) | refine ar_until (And.intro ?_ (wk3 ?_)))
  all_goals (first | refine ar_id ?_ | (try (focus ((try refine nrmO ?_); (repeat' (first | exact True.intro | refine And.intro ?_ ?_)); all_goals (try (intro (hg_ : _ = true); (try simp only [isNilI, inB, reduceCtorEq, cds] at hg_); (repeat' (first | exact True.intro | refine And.intro ?_ ?_)))); all_goals (first | exact ob1 | exact fn_heldII _ _ h.hCells.1 h.hCells.2 (by omega) | exact fn_heldB _ _ h.hUsed (by omega) | skip)))))
  all_goals (unfold cF; first | rfl | (rw [Nat.add_assoc]; done) | (simp only [Nat.add_assoc]; done) | omega)
def nT (x : GTable) : Nat := x.Entries.length
def cT (x : GTable) : Nat := 2 * x.Entries.length
structure smT (x : GTable) : Prop where
  hEntries : x.Entries.length ≤ 1048576
structure mxT (x : GTable) : Prop where
  hEntries : x.Entries.length ≤ 9223372036854775807
theorem T_sm {x : GTable} (h : nT x ≤ 1048576) : smT x := by
  unfold nT at h
  exact ⟨by omega⟩
theorem T_cn (x : GTable) : cT x ≤ 2 * nT x := by
  unfold cT nT
  omega
def c_szT (x : GTable) (a v : Int) : CFD := ⟨102, [.agg [ro 201 2 eEntry x.Entries], (SV.one (.lit (.int .i64 (a))))], [], (TV.sv (.one (.lit (.int .i64 (v))))), [], [], []⟩
theorem fn_szT (x : GTable) (a v : Int) (hm : mxT x) (ha : 0 ≤ a ∧ a ≤ 1048576) (hv : v = if a - (nT x : Int) < 0 then -1 else a - (nT x : Int)) : Fn Tryz.prog (c_szT x a v) := by
  refine fn_intro tt_ok Tryz.func102 rfl Tryz.call102 Tryz.ntmps102 Tryz.results102 rfl rfl rfl rfl ?_
  intro X ρ0 hb_ hgl_
  dsimp only [c_szT]
  try refine nrm ?_
  repeat' (refine ar_id ?_; first | refine st1 ?_ | (first | ((first | refine ar_region (id := 1) tt_ok (inps := [.call (c_szES x.Entries (a) (v))]) rfl ?_ ?_ | refine ar_region tt_ok (inps := []) rfl ?_ ?_); rotate_left; (try dsimp only [c_szES]); (try refine nrm ?_); rotate_right) | refine ret3 ?_ | refine end3 ?_) | (refine ar_cond rfl trivial ?_ ?_ <;> intro hc_ <;> (try simp only [isNilI, inB, reduceCtorEq, cds] at hc_) <;> (try (first | contradiction | (exfalso; omega)))) | refine ar_until (And.intro ?_ (wk3 ?_)))
  all_goals (first | refine ar_id ?_ | (try (focus ((try refine nrmO ?_); (repeat' (first | exact True.intro | refine And.intro ?_ ?_)); all_goals (try (intro (hg_ : _ = true); (try simp only [isNilI, inB, reduceCtorEq, cds] at hg_); (repeat' (first | exact True.intro | refine And.intro ?_ ?_)))); all_goals (first | exact ob1 | exact fn_szES _ _ _ hm.hEntries (by omega) (by rw [hv]; unfold nT; first | rfl | (split <;> split <;> omega)) | skip)))))
  all_goals (rw [hv]; unfold nT; split <;> first | rfl | omega | (congr 1; omega))
def c_toT (x : GTable) : CFD := ⟨112, [.agg [ro 201 2 eEntry x.Entries]], [], .sv (.agg [.hd 0]), [(0, some (.row 42 2 (x.Entries.map eEntry)))], [0], []⟩
theorem fn_toT (x : GTable) (h : smT x) : Fn Tryz.prog (c_toT x) := by
  refine fn_intro tt_ok Tryz.func112 rfl Tryz.call112 Tryz.ntmps112 Tryz.results112 rfl rfl rfl rfl ?_
  intro X ρ0 hb_ hgl_
  dsimp only [c_toT]
  try refine nrm ?_
  repeat' (refine ar_id ?_; first | refine st1 ?_ | (first | ((first | refine ar_region (id := 2) tt_ok (inps := [.call (c_toES x.Entries)]) rfl ?_ ?_ | refine ar_region tt_ok (inps := []) rfl ?_ ?_); rotate_left; (try dsimp only [c_toES]); (try refine nrm ?_); rotate_right) | refine ret3 ?_ | refine end3 ?_) | (refine ar_cond rfl trivial ?_ ?_ <;> intro hc_ <;> (try simp only [isNilI, inB, reduceCtorEq, cds] at hc_) <;> (try (first | contradiction | (exfalso; omega)))) | refine ar_until (And.intro ?_ (wk3 ?_)))
  all_goals (first | refine ar_id ?_ | (try (focus ((try refine nrmO ?_); (repeat' (first | exact True.intro | refine And.intro ?_ ?_)); all_goals (try (intro (hg_ : _ = true); (try simp only [isNilI, inB, reduceCtorEq, cds] at hg_); (repeat' (first | exact True.intro | refine And.intro ?_ ?_)))); all_goals (first | exact ob1 | exact fn_toES _ h.hEntries | skip)))))
def c_eqT (x : GTable) : CFD := ⟨114, [.agg [ro 42 2 eEntry x.Entries], .agg [ro 42 2 eEntry x.Entries]], [], (TV.sv (.one (.lit (.bool (true))))), [], [], []⟩
theorem fn_eqT (x : GTable) (h : smT x) : Fn Tryz.prog (c_eqT x) := by
  refine fn_intro tt_ok Tryz.func114 rfl Tryz.call114 Tryz.ntmps114 Tryz.results114 rfl rfl rfl rfl ?_
  intro X ρ0 hb_ hgl_
  dsimp only [c_eqT]
  try refine nrm ?_
  repeat' (refine ar_id ?_; first | refine st1 ?_ | (first | ((first | refine ar_region (id := 1) tt_ok (inps := [.call (c_eqES x.Entries)]) rfl ?_ ?_ | refine ar_region tt_ok (inps := []) rfl ?_ ?_); rotate_left; (try dsimp only [c_eqES]); (try refine nrm ?_); rotate_right) | refine ret3 ?_ | refine end3 ?_) | (refine ar_cond rfl trivial ?_ ?_ <;> intro hc_ <;> (try simp only [isNilI, inB, reduceCtorEq, cds] at hc_) <;> (try (first | contradiction | (exfalso; omega)))) | refine ar_until (And.intro ?_ (wk3 ?_)))
  all_goals (first | refine ar_id ?_ | (try (focus ((try refine nrmO ?_); (repeat' (first | exact True.intro | refine And.intro ?_ ?_)); all_goals (try (intro (hg_ : _ = true); (try simp only [isNilI, inB, reduceCtorEq, cds] at hg_); (repeat' (first | exact True.intro | refine And.intro ?_ ?_)))); all_goals (first | exact ob1 | exact fn_eqES _ h.hEntries | skip)))))
def c_markT (x : GTable) (k : Nat) : CFD := ⟨116, [.agg [.hd 700], (SV.one (.lit (.int .i64 ((k : Int)))))], [(700, some (.row 42 2 (x.Entries.map eEntry)))], (TV.sv (.one (.lit (.int .i64 (((k + cT x : Nat) : Int)))))), [(700, some (.row 42 2 ((mkE (k) x.Entries.length).map eEntry)))], [], []⟩
theorem fn_markT (x : GTable) (k : Nat) (h : smT x) (hk : k + cT x ≤ 100000000) : Fn Tryz.prog (c_markT x k) := by
  unfold cT at hk
  refine fn_intro tt_ok Tryz.func116 rfl Tryz.call116 Tryz.ntmps116 Tryz.results116 rfl rfl rfl rfl ?_
  intro X ρ0 hb_ hgl_
  dsimp only [c_markT]
  try refine nrm ?_
  repeat' (refine ar_id ?_; first | refine st1 ?_ | (first | ((first | refine ar_region (id := 1) tt_ok (inps := [.call (c_markES x.Entries (k))]) rfl ?_ ?_ | refine ar_region tt_ok (inps := []) rfl ?_ ?_); rotate_left; (try dsimp only [c_markES]); (try refine nrm ?_); rotate_right) | refine ret3 ?_ | refine end3 ?_) | (refine ar_cond rfl trivial ?_ ?_ <;> intro hc_ <;> (try simp only [isNilI, inB, reduceCtorEq, cds] at hc_) <;> (try (first | contradiction | (exfalso; omega)))) | refine ar_until (And.intro ?_ (wk3 ?_)))
  all_goals (first | refine ar_id ?_ | (try (focus ((try refine nrmO ?_); (repeat' (first | exact True.intro | refine And.intro ?_ ?_)); all_goals (try (intro (hg_ : _ = true); (try simp only [isNilI, inB, reduceCtorEq, cds] at hg_); (repeat' (first | exact True.intro | refine And.intro ?_ ?_)))); all_goals (first | exact ob1 | exact fn_markES _ _ h.hEntries (by omega) | skip)))))
  all_goals (unfold cT; first | rfl | (rw [Nat.add_assoc]; done) | (simp only [Nat.add_assoc]; done))
def c_heldT (x : GTable) (k : Nat) : CFD := ⟨118, [.agg [ro 42 2 eEntry (mkE (k) x.Entries.length)], (SV.one (.lit (.int .i64 ((k : Int)))))], [], (TV.sv (.one (.lit (.int .i64 (((k + cT x : Nat) : Int)))))), [], [], []⟩
theorem fn_heldT (x : GTable) (k : Nat) (h : smT x) (hk : k + cT x ≤ 100000000) : Fn Tryz.prog (c_heldT x k) := by
  unfold cT at hk
  refine fn_intro tt_ok Tryz.func118 rfl Tryz.call118 Tryz.ntmps118 Tryz.results118 rfl rfl rfl rfl ?_
  intro X ρ0 hb_ hgl_
  dsimp only [c_heldT]
  try refine nrm ?_
  repeat' (refine ar_id ?_; first | refine st1 ?_ | (first | ((first | refine ar_region (id := 1) tt_ok (inps := [.call (c_heldES x.Entries.length (k))]) rfl ?_ ?_ | refine ar_region tt_ok (inps := []) rfl ?_ ?_); rotate_left; (try dsimp only [c_heldES]); (try refine nrm ?_); rotate_right) | refine ret3 ?_ | refine end3 ?_) | (refine ar_cond rfl trivial ?_ ?_ <;> intro hc_ <;> (try simp only [isNilI, inB, reduceCtorEq, cds] at hc_) <;> (try (first | contradiction | (exfalso; omega)))) | refine ar_until (And.intro ?_ (wk3 ?_)))
  all_goals (first | refine ar_id ?_ | (try (focus ((try refine nrmO ?_); (repeat' (first | exact True.intro | refine And.intro ?_ ?_)); all_goals (try (intro (hg_ : _ = true); (try simp only [isNilI, inB, reduceCtorEq, cds] at hg_); (repeat' (first | exact True.intro | refine And.intro ?_ ?_)))); all_goals (first | exact ob1 | exact fn_heldES _ _ h.hEntries (by omega) | skip)))))
  all_goals (unfold cT; first | rfl | (rw [Nat.add_assoc]; done) | (simp only [Nat.add_assoc]; done) | omega)
def nM (x : GMachine) : Nat := nF x.Frames + nT x.Table
def cM (x : GMachine) : Nat := cF x.Frames + cT x.Table
structure smM (x : GMachine) : Prop where
  hFrames : smF x.Frames
  hTable : smT x.Table
structure mxM (x : GMachine) : Prop where
  hFrames : mxF x.Frames
  hTable : mxT x.Table
theorem M_sm {x : GMachine} (h : nM x ≤ 1048576) : smM x := by
  unfold nM at h
  exact ⟨F_sm (by omega), T_sm (by omega)⟩
theorem M_cn (x : GMachine) : cM x ≤ 2 * nM x := by
  unfold cM nM
  have h_Frames := F_cn x.Frames
  have h_Table := T_cn x.Table
  omega
def c_szM (x : GMachine) (a v : Int) : CFD := ⟨57, [.agg [ro 33 1 eIntS x.Frames.Cells, ro 4 1 Tr.eB x.Frames.Used, ro 201 2 eEntry x.Table.Entries], (SV.one (.lit (.int .i64 (a))))], [], (TV.sv (.one (.lit (.int .i64 (v))))), [], [], []⟩
theorem fn_szM (x : GMachine) (a v : Int) (hm : mxM x) (ha : 0 ≤ a ∧ a ≤ 1048576) (hv : v = if a - (nM x : Int) < 0 then -1 else a - (nM x : Int)) : Fn Tryz.prog (c_szM x a v) := by
  by_cases h0_ : a - ((nF x.Frames : Nat) : Int) < 0
  · have hvv : v = -1 := by rw [hv, if_pos (by unfold nM; omega)]
    refine fn_intro tt_ok Tryz.func57 rfl Tryz.call57 Tryz.ntmps57 Tryz.results57 rfl rfl rfl rfl ?_
    intro X ρ0 hb_ hgl_
    dsimp only [c_szM]
    try refine nrm ?_
    rw [hvv]
    repeat' (refine ar_id ?_; first | refine st1 ?_ | (first | ((first | refine ar_region (id := 1) tt_ok (inps := [.call (c_szF x.Frames (a) (-1))]) rfl ?_ ?_ | refine ar_region tt_ok (inps := []) rfl ?_ ?_); rotate_left; (try dsimp only [c_szF]); (try refine nrm ?_); rotate_right) | refine ret3 ?_ | refine end3 ?_) | (refine ar_cond rfl trivial ?_ ?_ <;> intro hc_ <;> (try simp only [isNilI, inB, reduceCtorEq, cds] at hc_) <;> (try (first | contradiction | (exfalso; omega)))) | refine ar_until (And.intro ?_ (wk3 ?_)))
    all_goals (first | refine ar_id ?_ | (try (focus ((try refine nrmO ?_); (repeat' (first | exact True.intro | refine And.intro ?_ ?_)); all_goals (try (intro (hg_ : _ = true); (try simp only [isNilI, inB, reduceCtorEq, cds] at hg_); (repeat' (first | exact True.intro | refine And.intro ?_ ?_)))); all_goals (first | exact ob1 | exact fn_szF _ _ _ hm.hFrames (by omega) (by rw [if_pos h0_]) | skip)))))
  · skip
    refine fn_intro tt_ok Tryz.func57 rfl Tryz.call57 Tryz.ntmps57 Tryz.results57 rfl rfl rfl rfl ?_
    intro X ρ0 hb_ hgl_
    dsimp only [c_szM]
    try refine nrm ?_
    repeat' (refine ar_id ?_; first | refine st1 ?_ | (first | ((first | refine ar_region (id := 1) tt_ok (inps := [.call (c_szF x.Frames (a) (a - ((nF x.Frames : Nat) : Int)))]) rfl ?_ ?_ | refine ar_region (id := 4) tt_ok (inps := [.call (c_szT x.Table (a - ((nF x.Frames : Nat) : Int)) (v))]) rfl ?_ ?_ | refine ar_region tt_ok (inps := []) rfl ?_ ?_); rotate_left; (try dsimp only [c_szF, c_szT]); (try refine nrm ?_); rotate_right) | refine ret3 ?_ | refine end3 ?_) | (refine ar_cond rfl trivial ?_ ?_ <;> intro hc_ <;> (try simp only [isNilI, inB, reduceCtorEq, cds] at hc_) <;> (try (first | contradiction | (exfalso; omega)))) | refine ar_until (And.intro ?_ (wk3 ?_)))
    all_goals (first | refine ar_id ?_ | (try (focus ((try refine nrmO ?_); (repeat' (first | exact True.intro | refine And.intro ?_ ?_)); all_goals (try (intro (hg_ : _ = true); (try simp only [isNilI, inB, reduceCtorEq, cds] at hg_); (repeat' (first | exact True.intro | refine And.intro ?_ ?_)))); all_goals (first | exact ob1 | exact fn_szF _ _ _ hm.hFrames (by omega) (by rw [if_neg h0_]) | exact fn_szT _ _ _ hm.hTable (by omega) (by rw [hv]; unfold nM; first | rfl | (split <;> split <;> omega)) | skip)))))
    all_goals (rw [hv]; unfold nM; split <;> first | rfl | omega | (congr 1; omega))
def c_toM (x : GMachine) : CFD := ⟨65, [.agg [ro 33 1 eIntS x.Frames.Cells, ro 4 1 Tr.eB x.Frames.Used, ro 201 2 eEntry x.Table.Entries]], [], .sv (.agg [.hd 0, .hd 1, .hd 2]), [(0, some (.row 33 1 (x.Frames.Cells.map eIntS))), (1, some (.row 4 1 (x.Frames.Used.map Tr.eB))), (2, some (.row 42 2 (x.Table.Entries.map eEntry)))], [0, 1, 2], []⟩
theorem fn_toM (x : GMachine) (h : smM x) : Fn Tryz.prog (c_toM x) := by
  refine fn_intro tt_ok Tryz.func65 rfl Tryz.call65 Tryz.ntmps65 Tryz.results65 rfl rfl rfl rfl ?_
  intro X ρ0 hb_ hgl_
  dsimp only [c_toM]
  try refine nrm ?_
  repeat' (refine ar_id ?_; first | refine st1 ?_ | (first | ((first | refine ar_region (id := 2) tt_ok (inps := [.call (c_toF x.Frames)]) rfl ?_ ?_ | refine ar_region (id := 3) tt_ok (inps := [.call (c_toT x.Table)]) rfl ?_ ?_ | refine ar_region tt_ok (inps := []) rfl ?_ ?_); rotate_left; (try dsimp only [c_toF, c_toT]); (try refine nrm ?_); rotate_right) | refine ret3 ?_ | refine end3 ?_) | (refine ar_cond rfl trivial ?_ ?_ <;> intro hc_ <;> (try simp only [isNilI, inB, reduceCtorEq, cds] at hc_) <;> (try (first | contradiction | (exfalso; omega)))) | refine ar_until (And.intro ?_ (wk3 ?_)))
  all_goals (first | refine ar_id ?_ | (try (focus ((try refine nrmO ?_); (repeat' (first | exact True.intro | refine And.intro ?_ ?_)); all_goals (try (intro (hg_ : _ = true); (try simp only [isNilI, inB, reduceCtorEq, cds] at hg_); (repeat' (first | exact True.intro | refine And.intro ?_ ?_)))); all_goals (first | exact ob1 | exact fn_toF _ h.hFrames | exact fn_toT _ h.hTable | skip)))))
def c_eqM (x : GMachine) : CFD := ⟨68, [.agg [ro 33 1 eIntS x.Frames.Cells, ro 4 1 Tr.eB x.Frames.Used, ro 42 2 eEntry x.Table.Entries], .agg [ro 33 1 eIntS x.Frames.Cells, ro 4 1 Tr.eB x.Frames.Used, ro 42 2 eEntry x.Table.Entries]], [], (TV.sv (.one (.lit (.bool (true))))), [], [], []⟩
theorem fn_eqM (x : GMachine) (h : smM x) : Fn Tryz.prog (c_eqM x) := by
  refine fn_intro tt_ok Tryz.func68 rfl Tryz.call68 Tryz.ntmps68 Tryz.results68 rfl rfl rfl rfl ?_
  intro X ρ0 hb_ hgl_
  dsimp only [c_eqM]
  try refine nrm ?_
  repeat' (refine ar_id ?_; first | refine st1 ?_ | (first | ((first | refine ar_region (id := 1) tt_ok (inps := [.call (c_eqF x.Frames)]) rfl ?_ ?_ | refine ar_region (id := 3) tt_ok (inps := [.call (c_eqT x.Table)]) rfl ?_ ?_ | refine ar_region tt_ok (inps := []) rfl ?_ ?_); rotate_left; (try dsimp only [c_eqF, c_eqT]); (try refine nrm ?_); rotate_right) | refine ret3 ?_ | refine end3 ?_) | (refine ar_cond rfl trivial ?_ ?_ <;> intro hc_ <;> (try simp only [isNilI, inB, reduceCtorEq, cds] at hc_) <;> (try (first | contradiction | (exfalso; omega)))) | refine ar_until (And.intro ?_ (wk3 ?_)))
  all_goals (first | refine ar_id ?_ | (try (focus ((try refine nrmO ?_); (repeat' (first | exact True.intro | refine And.intro ?_ ?_)); all_goals (try (intro (hg_ : _ = true); (try simp only [isNilI, inB, reduceCtorEq, cds] at hg_); (repeat' (first | exact True.intro | refine And.intro ?_ ?_)))); all_goals (first | exact ob1 | exact fn_eqF _ h.hFrames | exact fn_eqT _ h.hTable | skip)))))
def c_markM (x : GMachine) (k : Nat) : CFD := ⟨71, [.agg [.hd 700, .hd 701, .hd 702], (SV.one (.lit (.int .i64 ((k : Int)))))], [(700, some (.row 33 1 (x.Frames.Cells.map eIntS))), (701, some (.row 4 1 (x.Frames.Used.map Tr.eB))), (702, some (.row 42 2 (x.Table.Entries.map eEntry)))], (TV.sv (.one (.lit (.int .i64 (((k + cM x : Nat) : Int)))))), [(700, some (.row 33 1 ((mkII (k) x.Frames.Cells).map eIntS))), (701, some (.row 4 1 ((mkB (k + cntII x.Frames.Cells) x.Frames.Used.length).map Tr.eB))), (702, some (.row 42 2 ((mkE (k + cF x.Frames) x.Table.Entries.length).map eEntry)))], [], []⟩
theorem fn_markM (x : GMachine) (k : Nat) (h : smM x) (hk : k + cM x ≤ 100000000) : Fn Tryz.prog (c_markM x k) := by
  unfold cM at hk
  refine fn_intro tt_ok Tryz.func71 rfl Tryz.call71 Tryz.ntmps71 Tryz.results71 rfl rfl rfl rfl ?_
  intro X ρ0 hb_ hgl_
  dsimp only [c_markM]
  try refine nrm ?_
  repeat' (refine ar_id ?_; first | refine st1 ?_ | (first | ((first | refine ar_region (id := 1) tt_ok (inps := [.call (c_markF x.Frames (k))]) rfl ?_ ?_ | refine ar_region (id := 2) tt_ok (inps := [.call (c_markT x.Table (k + cF x.Frames))]) rfl ?_ ?_ | refine ar_region tt_ok (inps := []) rfl ?_ ?_); rotate_left; (try dsimp only [c_markF, c_markT]); (try refine nrm ?_); rotate_right) | refine ret3 ?_ | refine end3 ?_) | (refine ar_cond rfl trivial ?_ ?_ <;> intro hc_ <;> (try simp only [isNilI, inB, reduceCtorEq, cds] at hc_) <;> (try (first | contradiction | (exfalso; omega)))) | refine ar_until (And.intro ?_ (wk3 ?_)))
  all_goals (first | refine ar_id ?_ | (try (focus ((try refine nrmO ?_); (repeat' (first | exact True.intro | refine And.intro ?_ ?_)); all_goals (try (intro (hg_ : _ = true); (try simp only [isNilI, inB, reduceCtorEq, cds] at hg_); (repeat' (first | exact True.intro | refine And.intro ?_ ?_)))); all_goals (first | exact ob1 | exact fn_markF _ _ h.hFrames (by omega) | exact fn_markT _ _ h.hTable (by omega) | skip)))))
  all_goals (unfold cM; first | rfl | (rw [Nat.add_assoc]; done) | (simp only [Nat.add_assoc]; done))
def c_heldM (x : GMachine) (k : Nat) : CFD := ⟨73, [.agg [ro 33 1 eIntS (mkII (k) x.Frames.Cells), ro 4 1 Tr.eB (mkB (k + cntII x.Frames.Cells) x.Frames.Used.length), ro 42 2 eEntry (mkE (k + cF x.Frames) x.Table.Entries.length)], (SV.one (.lit (.int .i64 ((k : Int)))))], [], (TV.sv (.one (.lit (.int .i64 (((k + cM x : Nat) : Int)))))), [], [], []⟩
theorem fn_heldM (x : GMachine) (k : Nat) (h : smM x) (hk : k + cM x ≤ 100000000) : Fn Tryz.prog (c_heldM x k) := by
  unfold cM at hk
  refine fn_intro tt_ok Tryz.func73 rfl Tryz.call73 Tryz.ntmps73 Tryz.results73 rfl rfl rfl rfl ?_
  intro X ρ0 hb_ hgl_
  dsimp only [c_heldM]
  try refine nrm ?_
  repeat' (refine ar_id ?_; first | refine st1 ?_ | (first | ((first | refine ar_region (id := 1) tt_ok (inps := [.call (c_heldF x.Frames (k))]) rfl ?_ ?_ | refine ar_region (id := 4) tt_ok (inps := [.call (c_heldT x.Table (k + cF x.Frames))]) rfl ?_ ?_ | refine ar_region tt_ok (inps := []) rfl ?_ ?_); rotate_left; (try dsimp only [c_heldF, c_heldT]); (try refine nrm ?_); rotate_right) | refine ret3 ?_ | refine end3 ?_) | (refine ar_cond rfl trivial ?_ ?_ <;> intro hc_ <;> (try simp only [isNilI, inB, reduceCtorEq, cds] at hc_) <;> (try (first | contradiction | (exfalso; omega)))) | refine ar_until (And.intro ?_ (wk3 ?_)))
  all_goals (first | refine ar_id ?_ | (try (focus ((try refine nrmO ?_); (repeat' (first | exact True.intro | refine And.intro ?_ ?_)); all_goals (try (intro (hg_ : _ = true); (try simp only [isNilI, inB, reduceCtorEq, cds] at hg_); (repeat' (first | exact True.intro | refine And.intro ?_ ?_)))); all_goals (first | exact ob1 | exact fn_heldF _ _ h.hFrames (by omega) | exact fn_heldT _ _ h.hTable (by omega) | skip)))))
  all_goals (unfold cM; first | rfl | (rw [Nat.add_assoc]; done) | (simp only [Nat.add_assoc]; done) | omega)
def nK (x : GKernel) : Nat := nM x.Machine + x.Refuse.length
def cK (x : GKernel) : Nat := cM x.Machine + x.Refuse.length
structure smK (x : GKernel) : Prop where
  hMachine : smM x.Machine
  hRefuse : x.Refuse.length ≤ 1048576
structure mxK (x : GKernel) : Prop where
  hMachine : mxM x.Machine
  hRefuse : x.Refuse.length ≤ 9223372036854775807
theorem K_sm {x : GKernel} (h : nK x ≤ 1048576) : smK x := by
  unfold nK at h
  exact ⟨M_sm (by omega), by omega⟩
theorem K_cn (x : GKernel) : cK x ≤ 2 * nK x := by
  unfold cK nK
  have h_Machine := M_cn x.Machine
  omega
def c_szK (x : GKernel) (a v : Int) : CFD := ⟨19, [.agg [ro 33 1 eIntS x.Machine.Frames.Cells, ro 4 1 Tr.eB x.Machine.Frames.Used, ro 201 2 eEntry x.Machine.Table.Entries, (CV.lit (.int .i64 (x.Calls))), ro 3 1 Tr.eI x.Refuse], (SV.one (.lit (.int .i64 (a))))], [], (TV.sv (.one (.lit (.int .i64 (v))))), [], [], []⟩
theorem fn_szK (x : GKernel) (a v : Int) (hm : mxK x) (ha : 0 ≤ a ∧ a ≤ 1048576) (hv : v = if a - (nK x : Int) < 0 then -1 else a - (nK x : Int)) : Fn Tryz.prog (c_szK x a v) := by
  by_cases h0_ : a - ((nM x.Machine : Nat) : Int) < 0
  · have hvv : v = -1 := by rw [hv, if_pos (by unfold nK; omega)]
    refine fn_intro tt_ok Tryz.func19 rfl Tryz.call19 Tryz.ntmps19 Tryz.results19 rfl rfl rfl rfl ?_
    intro X ρ0 hb_ hgl_
    dsimp only [c_szK]
    try refine nrm ?_
    rw [hvv]
    repeat' (refine ar_id ?_; first | refine st1 ?_ | (first | ((first | refine ar_region (id := 1) tt_ok (inps := [.call (c_szM x.Machine (a) (-1))]) rfl ?_ ?_ | refine ar_region tt_ok (inps := []) rfl ?_ ?_); rotate_left; (try dsimp only [c_szM]); (try refine nrm ?_); rotate_right) | refine ret3 ?_ | refine end3 ?_) | (refine ar_cond rfl trivial ?_ ?_ <;> intro hc_ <;> (try simp only [isNilI, inB, reduceCtorEq, cds] at hc_) <;> (try (first | contradiction | (exfalso; omega)))) | refine ar_until (And.intro ?_ (wk3 ?_)))
    all_goals (first | refine ar_id ?_ | (try (focus ((try refine nrmO ?_); (repeat' (first | exact True.intro | refine And.intro ?_ ?_)); all_goals (try (intro (hg_ : _ = true); (try simp only [isNilI, inB, reduceCtorEq, cds] at hg_); (repeat' (first | exact True.intro | refine And.intro ?_ ?_)))); all_goals (first | exact ob1 | exact fn_szM _ _ _ hm.hMachine (by omega) (by rw [if_pos h0_]) | skip)))))
  · skip
    refine fn_intro tt_ok Tryz.func19 rfl Tryz.call19 Tryz.ntmps19 Tryz.results19 rfl rfl rfl rfl ?_
    intro X ρ0 hb_ hgl_
    dsimp only [c_szK]
    try refine nrm ?_
    repeat' (refine ar_id ?_; first | refine st1 ?_ | (first | ((first | refine ar_region (id := 1) tt_ok (inps := [.call (c_szM x.Machine (a) (a - ((nM x.Machine : Nat) : Int)))]) rfl ?_ ?_ | refine ar_region (id := 4) tt_ok (inps := [.call (c_szI x.Refuse (a - ((nM x.Machine : Nat) : Int)) (v))]) rfl ?_ ?_ | refine ar_region tt_ok (inps := []) rfl ?_ ?_); rotate_left; (try dsimp only [c_szI, c_szM]); (try refine nrm ?_); rotate_right) | refine ret3 ?_ | refine end3 ?_) | (refine ar_cond rfl trivial ?_ ?_ <;> intro hc_ <;> (try simp only [isNilI, inB, reduceCtorEq, cds] at hc_) <;> (try (first | contradiction | (exfalso; omega)))) | refine ar_until (And.intro ?_ (wk3 ?_)))
    all_goals (first | refine ar_id ?_ | (try (focus ((try refine nrmO ?_); (repeat' (first | exact True.intro | refine And.intro ?_ ?_)); all_goals (try (intro (hg_ : _ = true); (try simp only [isNilI, inB, reduceCtorEq, cds] at hg_); (repeat' (first | exact True.intro | refine And.intro ?_ ?_)))); all_goals (first | exact ob1 | exact fn_szM _ _ _ hm.hMachine (by omega) (by rw [if_neg h0_]) | exact fn_szI _ _ _ hm.hRefuse (by omega) (by rw [hv]; unfold nK; first | rfl | (split <;> split <;> omega)) | skip)))))
    all_goals (rw [hv]; unfold nK; split <;> first | rfl | omega | (congr 1; omega))
def c_toK (x : GKernel) : CFD := ⟨23, [.agg [ro 33 1 eIntS x.Machine.Frames.Cells, ro 4 1 Tr.eB x.Machine.Frames.Used, ro 201 2 eEntry x.Machine.Table.Entries, (CV.lit (.int .i64 (x.Calls))), ro 3 1 Tr.eI x.Refuse]], [], .sv (.agg [.hd 0, .hd 1, .hd 2, (CV.lit (.int .i64 (x.Calls))), .hd 3]), [(0, some (.row 33 1 (x.Machine.Frames.Cells.map eIntS))), (1, some (.row 4 1 (x.Machine.Frames.Used.map Tr.eB))), (2, some (.row 42 2 (x.Machine.Table.Entries.map eEntry))), (3, some (.row 3 1 (x.Refuse.map Tr.eI)))], [0, 1, 2, 3], []⟩
theorem fn_toK (x : GKernel) (h : smK x) : Fn Tryz.prog (c_toK x) := by
  refine fn_intro tt_ok Tryz.func23 rfl Tryz.call23 Tryz.ntmps23 Tryz.results23 rfl rfl rfl rfl ?_
  intro X ρ0 hb_ hgl_
  dsimp only [c_toK]
  try refine nrm ?_
  repeat' (refine ar_id ?_; first | refine st1 ?_ | (first | ((first | refine ar_region (id := 2) tt_ok (inps := [.call (c_toM x.Machine)]) rfl ?_ ?_ | refine ar_region (id := 4) tt_ok (inps := [.call (c_toI x.Refuse)]) rfl ?_ ?_ | refine ar_region tt_ok (inps := []) rfl ?_ ?_); rotate_left; (try dsimp only [c_toI, c_toM]); (try refine nrm ?_); rotate_right) | refine ret3 ?_ | refine end3 ?_) | (refine ar_cond rfl trivial ?_ ?_ <;> intro hc_ <;> (try simp only [isNilI, inB, reduceCtorEq, cds] at hc_) <;> (try (first | contradiction | (exfalso; omega)))) | refine ar_until (And.intro ?_ (wk3 ?_)))
  all_goals (first | refine ar_id ?_ | (try (focus ((try refine nrmO ?_); (repeat' (first | exact True.intro | refine And.intro ?_ ?_)); all_goals (try (intro (hg_ : _ = true); (try simp only [isNilI, inB, reduceCtorEq, cds] at hg_); (repeat' (first | exact True.intro | refine And.intro ?_ ?_)))); all_goals (first | exact ob1 | exact fn_toM _ h.hMachine | exact fn_toI _ h.hRefuse | skip)))))
def c_eqK (x : GKernel) : CFD := ⟨27, [.agg [ro 33 1 eIntS x.Machine.Frames.Cells, ro 4 1 Tr.eB x.Machine.Frames.Used, ro 42 2 eEntry x.Machine.Table.Entries, (CV.lit (.int .i64 (x.Calls))), ro 3 1 Tr.eI x.Refuse], .agg [ro 33 1 eIntS x.Machine.Frames.Cells, ro 4 1 Tr.eB x.Machine.Frames.Used, ro 42 2 eEntry x.Machine.Table.Entries, (CV.lit (.int .i64 (x.Calls))), ro 3 1 Tr.eI x.Refuse]], [], (TV.sv (.one (.lit (.bool (true))))), [], [], []⟩
theorem fn_eqK (x : GKernel) (h : smK x) : Fn Tryz.prog (c_eqK x) := by
  refine fn_intro tt_ok Tryz.func27 rfl Tryz.call27 Tryz.ntmps27 Tryz.results27 rfl rfl rfl rfl ?_
  intro X ρ0 hb_ hgl_
  dsimp only [c_eqK]
  try refine nrm ?_
  repeat' (refine ar_id ?_; first | refine st1 ?_ | (first | ((first | refine ar_region (id := 1) tt_ok (inps := [.call (c_eqM x.Machine)]) rfl ?_ ?_ | refine ar_region (id := 5) tt_ok (inps := [.call (c_eqI x.Refuse)]) rfl ?_ ?_ | refine ar_region tt_ok (inps := []) rfl ?_ ?_); rotate_left; (try dsimp only [c_eqI, c_eqM]); (try refine nrm ?_); rotate_right) | refine ret3 ?_ | refine end3 ?_) | (refine ar_cond rfl trivial ?_ ?_ <;> intro hc_ <;> (try simp only [isNilI, inB, reduceCtorEq, cds] at hc_) <;> (try (first | contradiction | (exfalso; omega)))) | refine ar_until (And.intro ?_ (wk3 ?_)))
  all_goals (first | refine ar_id ?_ | (try (focus ((try refine nrmO ?_); (repeat' (first | exact True.intro | refine And.intro ?_ ?_)); all_goals (try (intro (hg_ : _ = true); (try simp only [isNilI, inB, reduceCtorEq, cds] at hg_); (repeat' (first | exact True.intro | refine And.intro ?_ ?_)))); all_goals (first | exact ob1 | exact fn_eqM _ h.hMachine | exact fn_eqI _ h.hRefuse | skip)))))
def c_markK (x : GKernel) (k : Nat) : CFD := ⟨31, [.agg [.hd 700, .hd 701, .hd 702, (CV.lit (.int .i64 (x.Calls))), .hd 703], (SV.one (.lit (.int .i64 ((k : Int)))))], [(700, some (.row 33 1 (x.Machine.Frames.Cells.map eIntS))), (701, some (.row 4 1 (x.Machine.Frames.Used.map Tr.eB))), (702, some (.row 42 2 (x.Machine.Table.Entries.map eEntry))), (703, some (.row 3 1 (x.Refuse.map Tr.eI)))], (TV.sv (.one (.lit (.int .i64 (((k + cK x : Nat) : Int)))))), [(700, some (.row 33 1 ((mkII (k) x.Machine.Frames.Cells).map eIntS))), (701, some (.row 4 1 ((mkB (k + cntII x.Machine.Frames.Cells) x.Machine.Frames.Used.length).map Tr.eB))), (702, some (.row 42 2 ((mkE (k + cF x.Machine.Frames) x.Machine.Table.Entries.length).map eEntry))), (703, some (.row 3 1 ((mkI (k + cM x.Machine) x.Refuse.length).map Tr.eI)))], [], []⟩
theorem fn_markK (x : GKernel) (k : Nat) (h : smK x) (hk : k + cK x ≤ 100000000) : Fn Tryz.prog (c_markK x k) := by
  unfold cK at hk
  refine fn_intro tt_ok Tryz.func31 rfl Tryz.call31 Tryz.ntmps31 Tryz.results31 rfl rfl rfl rfl ?_
  intro X ρ0 hb_ hgl_
  dsimp only [c_markK]
  try refine nrm ?_
  repeat' (refine ar_id ?_; first | refine st1 ?_ | (first | ((first | refine ar_region (id := 1) tt_ok (inps := [.call (c_markM x.Machine (k))]) rfl ?_ ?_ | refine ar_region (id := 2) tt_ok (inps := [.call (c_markI x.Refuse (k + cM x.Machine))]) rfl ?_ ?_ | refine ar_region tt_ok (inps := []) rfl ?_ ?_); rotate_left; (try dsimp only [c_markI, c_markM]); (try refine nrm ?_); rotate_right) | refine ret3 ?_ | refine end3 ?_) | (refine ar_cond rfl trivial ?_ ?_ <;> intro hc_ <;> (try simp only [isNilI, inB, reduceCtorEq, cds] at hc_) <;> (try (first | contradiction | (exfalso; omega)))) | refine ar_until (And.intro ?_ (wk3 ?_)))
  all_goals (first | refine ar_id ?_ | (try (focus ((try refine nrmO ?_); (repeat' (first | exact True.intro | refine And.intro ?_ ?_)); all_goals (try (intro (hg_ : _ = true); (try simp only [isNilI, inB, reduceCtorEq, cds] at hg_); (repeat' (first | exact True.intro | refine And.intro ?_ ?_)))); all_goals (first | exact ob1 | exact fn_markM _ _ h.hMachine (by omega) | exact fn_markI _ _ h.hRefuse (by omega) | skip)))))
  all_goals (unfold cK; first | rfl | (rw [Nat.add_assoc]; done) | (simp only [Nat.add_assoc]; done))
def c_heldK (x : GKernel) (k : Nat) : CFD := ⟨35, [.agg [ro 33 1 eIntS (mkII (k) x.Machine.Frames.Cells), ro 4 1 Tr.eB (mkB (k + cntII x.Machine.Frames.Cells) x.Machine.Frames.Used.length), ro 42 2 eEntry (mkE (k + cF x.Machine.Frames) x.Machine.Table.Entries.length), (CV.lit (.int .i64 (x.Calls))), ro 3 1 Tr.eI (mkI (k + cM x.Machine) x.Refuse.length)], (SV.one (.lit (.int .i64 ((k : Int)))))], [], (TV.sv (.one (.lit (.int .i64 (((k + cK x : Nat) : Int)))))), [], [], []⟩
theorem fn_heldK (x : GKernel) (k : Nat) (h : smK x) (hk : k + cK x ≤ 100000000) : Fn Tryz.prog (c_heldK x k) := by
  unfold cK at hk
  refine fn_intro tt_ok Tryz.func35 rfl Tryz.call35 Tryz.ntmps35 Tryz.results35 rfl rfl rfl rfl ?_
  intro X ρ0 hb_ hgl_
  dsimp only [c_heldK]
  try refine nrm ?_
  repeat' (refine ar_id ?_; first | refine st1 ?_ | (first | ((first | refine ar_region (id := 1) tt_ok (inps := [.call (c_heldM x.Machine (k))]) rfl ?_ ?_ | refine ar_region (id := 4) tt_ok (inps := [.call (c_heldI x.Refuse.length (k + cM x.Machine))]) rfl ?_ ?_ | refine ar_region tt_ok (inps := []) rfl ?_ ?_); rotate_left; (try dsimp only [c_heldI, c_heldM]); (try refine nrm ?_); rotate_right) | refine ret3 ?_ | refine end3 ?_) | (refine ar_cond rfl trivial ?_ ?_ <;> intro hc_ <;> (try simp only [isNilI, inB, reduceCtorEq, cds] at hc_) <;> (try (first | contradiction | (exfalso; omega)))) | refine ar_until (And.intro ?_ (wk3 ?_)))
  all_goals (first | refine ar_id ?_ | (try (focus ((try refine nrmO ?_); (repeat' (first | exact True.intro | refine And.intro ?_ ?_)); all_goals (try (intro (hg_ : _ = true); (try simp only [isNilI, inB, reduceCtorEq, cds] at hg_); (repeat' (first | exact True.intro | refine And.intro ?_ ?_)))); all_goals (first | exact ob1 | exact fn_heldM _ _ h.hMachine (by omega) | exact fn_heldI _ _ h.hRefuse (by omega) | skip)))))
  all_goals (unfold cK; first | rfl | (rw [Nat.add_assoc]; done) | (simp only [Nat.add_assoc]; done) | omega)
end Eng
end Go.Proofs.YtabnglcabpijfaaGreatDoor
namespace Go.Proofs.YtabnglcabpijfaaGreatDoor
open Go.RowKit
set_option linter.unusedVariables false
namespace Tr
/-- the cell before number i -/
def lastV (l : List Int) : Nat → Int
  | 0 => -1
  | i + 1 => l.getD i 0
def okAt (l : List Int) (i : Nat) : Prop := lastV l i < l.getD i 0 ∧ 0 ≤ l.getD i 0 ∧ l.getD i 0 ≤ 15
instance (l : List Int) (i : Nat) : Decidable (okAt l i) := by unfold okAt; infer_instance
def asc (l : List Int) : Prop := ∀ i, i < l.length → okAt l i
instance (l : List Int) : Decidable (asc l) := by unfold asc; infer_instance
def plOk (p : GPlan) : Prop := p.Keep ≠ p.Move ∧ (0 ≤ p.Keep ∧ p.Keep ≤ 31) ∧ (0 ≤ p.Move ∧ p.Move ≤ 31) ∧ asc p.Cells
instance (p : GPlan) : Decidable (plOk p) := by unfold plOk; infer_instance
def pPlanOk (p : GPlan) : Bool := decide (plOk p)
def mgOk (keep move : List Int) (p : GPlan) : Prop := plOk p ∧ keep.length = 16 ∧ move.length = 16
instance (keep move : List Int) (p : GPlan) : Decidable (mgOk keep move p) := by unfold mgOk; infer_instance
theorem asc_at {l : List Int} (h : asc l) {i : Nat} (hi : i < l.length) : 0 ≤ l.getD i 0 ∧ l.getD i 0 ≤ 15 := (h i hi).2
end Tr
end Go.Proofs.YtabnglcabpijfaaGreatDoor
namespace Go.Proofs.YtabnglcabpijfaaGreatDoor
open Go.RowKit
set_option linter.unusedVariables false
set_option linter.unusedSimpArgs false
namespace Tr
def okJ (j : GJob) : Prop := plOk j.Plan ∧ (0 ≤ j.Phase ∧ j.Phase ≤ 5) ∧ 0 ≤ j.Next ∧ j.Next ≤ (j.Plan.Cells.length : Int)
instance (j : GJob) : Decidable (okJ j) := by unfold okJ; infer_instance
def pJobOk (j : GJob) : Bool := decide (okJ j)
def overJ (j : GJob) : Prop := j.Phase = 4 ∨ j.Phase = 5
instance (j : GJob) : Decidable (overJ j) := by unfold overJ; infer_instance
end Tr
end Go.Proofs.YtabnglcabpijfaaGreatDoor
namespace Go.Proofs.YtabnglcabpijfaaGreatDoor
open Go.RowKit
set_option linter.unusedVariables false
set_option linter.unusedSimpArgs false
set_option maxRecDepth 100000
namespace Eng
open Tr
def nPn (x : GPlan) : Nat := x.Cells.length
def cPn (x : GPlan) : Nat := x.Cells.length
structure smPn (x : GPlan) : Prop where
  hCells : x.Cells.length ≤ 1048576
structure mxPn (x : GPlan) : Prop where
  hCells : x.Cells.length ≤ 9223372036854775807
theorem Pn_sm {x : GPlan} (h : nPn x ≤ 1048576) : smPn x := by
  unfold nPn at h
  exact ⟨by omega⟩
theorem Pn_cn (x : GPlan) : cPn x ≤ 2 * nPn x := by
  unfold cPn nPn
  omega
def c_szPn (x : GPlan) (a v : Int) : CFD := ⟨59, [.agg [(CV.lit (.int .i64 (x.Keep))), (CV.lit (.int .i64 (x.Move))), ro 3 1 Tr.eI x.Cells], (SV.one (.lit (.int .i64 (a))))], [], (TV.sv (.one (.lit (.int .i64 (v))))), [], [], []⟩
theorem fn_szPn (x : GPlan) (a v : Int) (hm : mxPn x) (ha : 0 ≤ a ∧ a ≤ 1048576) (hv : v = if a - (nPn x : Int) < 0 then -1 else a - (nPn x : Int)) : Fn Tryz.prog (c_szPn x a v) := by
  refine fn_intro tt_ok Tryz.func59 rfl Tryz.call59 Tryz.ntmps59 Tryz.results59 rfl rfl rfl rfl ?_
  intro X ρ0 hb_ hgl_
  dsimp only [c_szPn]
  try refine nrm ?_
  repeat' (refine ar_id ?_; first | refine st1 ?_ | (first | ((first | refine ar_region (id := 1) tt_ok (inps := [.call (c_szI x.Cells (a) (v))]) rfl ?_ ?_ | refine ar_region tt_ok (inps := []) rfl ?_ ?_); rotate_left; (try dsimp only [c_szI]); (try refine nrm ?_); rotate_right) | refine ret3 ?_ | refine end3 ?_) | (refine ar_cond rfl trivial ?_ ?_ <;> intro hc_ <;> (try simp only [isNilI, inB, reduceCtorEq, cds] at hc_) <;> (try (first | contradiction | (exfalso; omega)))) | refine ar_until (And.intro ?_ (wk3 ?_)))
  all_goals (first | refine ar_id ?_ | (try (focus ((try refine nrmO ?_); (repeat' (first | exact True.intro | refine And.intro ?_ ?_)); all_goals (try (intro (hg_ : _ = true); (try simp only [isNilI, inB, reduceCtorEq, cds] at hg_); (repeat' (first | exact True.intro | refine And.intro ?_ ?_)))); all_goals (first | exact ob1 | exact fn_szI _ _ _ hm.hCells (by omega) (by rw [hv]; unfold nPn; first | rfl | (split <;> split <;> omega)) | skip)))))
  all_goals (rw [hv]; unfold nPn; split <;> first | rfl | omega | (congr 1; omega))
def c_toPn (x : GPlan) : CFD := ⟨66, [.agg [(CV.lit (.int .i64 (x.Keep))), (CV.lit (.int .i64 (x.Move))), ro 3 1 Tr.eI x.Cells]], [], .sv (.agg [(CV.lit (.int .i64 (x.Keep))), (CV.lit (.int .i64 (x.Move))), .hd 0]), [(0, some (.row 3 1 (x.Cells.map Tr.eI)))], [0], []⟩
theorem fn_toPn (x : GPlan) (h : smPn x) : Fn Tryz.prog (c_toPn x) := by
  refine fn_intro tt_ok Tryz.func66 rfl Tryz.call66 Tryz.ntmps66 Tryz.results66 rfl rfl rfl rfl ?_
  intro X ρ0 hb_ hgl_
  dsimp only [c_toPn]
  try refine nrm ?_
  repeat' (refine ar_id ?_; first | refine st1 ?_ | (first | ((first | refine ar_region (id := 4) tt_ok (inps := [.call (c_toI x.Cells)]) rfl ?_ ?_ | refine ar_region tt_ok (inps := []) rfl ?_ ?_); rotate_left; (try dsimp only [c_toI]); (try refine nrm ?_); rotate_right) | refine ret3 ?_ | refine end3 ?_) | (refine ar_cond rfl trivial ?_ ?_ <;> intro hc_ <;> (try simp only [isNilI, inB, reduceCtorEq, cds] at hc_) <;> (try (first | contradiction | (exfalso; omega)))) | refine ar_until (And.intro ?_ (wk3 ?_)))
  all_goals (first | refine ar_id ?_ | (try (focus ((try refine nrmO ?_); (repeat' (first | exact True.intro | refine And.intro ?_ ?_)); all_goals (try (intro (hg_ : _ = true); (try simp only [isNilI, inB, reduceCtorEq, cds] at hg_); (repeat' (first | exact True.intro | refine And.intro ?_ ?_)))); all_goals (first | exact ob1 | exact fn_toI _ h.hCells | skip)))))
def c_eqPn (x : GPlan) : CFD := ⟨69, [.agg [(CV.lit (.int .i64 (x.Keep))), (CV.lit (.int .i64 (x.Move))), ro 3 1 Tr.eI x.Cells], .agg [(CV.lit (.int .i64 (x.Keep))), (CV.lit (.int .i64 (x.Move))), ro 3 1 Tr.eI x.Cells]], [], (TV.sv (.one (.lit (.bool (true))))), [], [], []⟩
theorem fn_eqPn (x : GPlan) (h : smPn x) : Fn Tryz.prog (c_eqPn x) := by
  refine fn_intro tt_ok Tryz.func69 rfl Tryz.call69 Tryz.ntmps69 Tryz.results69 rfl rfl rfl rfl ?_
  intro X ρ0 hb_ hgl_
  dsimp only [c_eqPn]
  try refine nrm ?_
  repeat' (refine ar_id ?_; first | refine st1 ?_ | (first | ((first | refine ar_region (id := 5) tt_ok (inps := [.call (c_eqI x.Cells)]) rfl ?_ ?_ | refine ar_region tt_ok (inps := []) rfl ?_ ?_); rotate_left; (try dsimp only [c_eqI]); (try refine nrm ?_); rotate_right) | refine ret3 ?_ | refine end3 ?_) | (refine ar_cond rfl trivial ?_ ?_ <;> intro hc_ <;> (try simp only [isNilI, inB, reduceCtorEq, cds] at hc_) <;> (try (first | contradiction | (exfalso; omega)))) | refine ar_until (And.intro ?_ (wk3 ?_)))
  all_goals (first | refine ar_id ?_ | (try (focus ((try refine nrmO ?_); (repeat' (first | exact True.intro | refine And.intro ?_ ?_)); all_goals (try (intro (hg_ : _ = true); (try simp only [isNilI, inB, reduceCtorEq, cds] at hg_); (repeat' (first | exact True.intro | refine And.intro ?_ ?_)))); all_goals (first | exact ob1 | exact fn_eqI _ h.hCells | skip)))))
def c_markPn (x : GPlan) (k : Nat) : CFD := ⟨72, [.agg [(CV.lit (.int .i64 (x.Keep))), (CV.lit (.int .i64 (x.Move))), .hd 700], (SV.one (.lit (.int .i64 ((k : Int)))))], [(700, some (.row 3 1 (x.Cells.map Tr.eI)))], (TV.sv (.one (.lit (.int .i64 (((k + cPn x : Nat) : Int)))))), [(700, some (.row 3 1 ((mkI (k) x.Cells.length).map Tr.eI)))], [], []⟩
theorem fn_markPn (x : GPlan) (k : Nat) (h : smPn x) (hk : k + cPn x ≤ 100000000) : Fn Tryz.prog (c_markPn x k) := by
  unfold cPn at hk
  refine fn_intro tt_ok Tryz.func72 rfl Tryz.call72 Tryz.ntmps72 Tryz.results72 rfl rfl rfl rfl ?_
  intro X ρ0 hb_ hgl_
  dsimp only [c_markPn]
  try refine nrm ?_
  repeat' (refine ar_id ?_; first | refine st1 ?_ | (first | ((first | refine ar_region (id := 1) tt_ok (inps := [.call (c_markI x.Cells (k))]) rfl ?_ ?_ | refine ar_region tt_ok (inps := []) rfl ?_ ?_); rotate_left; (try dsimp only [c_markI]); (try refine nrm ?_); rotate_right) | refine ret3 ?_ | refine end3 ?_) | (refine ar_cond rfl trivial ?_ ?_ <;> intro hc_ <;> (try simp only [isNilI, inB, reduceCtorEq, cds] at hc_) <;> (try (first | contradiction | (exfalso; omega)))) | refine ar_until (And.intro ?_ (wk3 ?_)))
  all_goals (first | refine ar_id ?_ | (try (focus ((try refine nrmO ?_); (repeat' (first | exact True.intro | refine And.intro ?_ ?_)); all_goals (try (intro (hg_ : _ = true); (try simp only [isNilI, inB, reduceCtorEq, cds] at hg_); (repeat' (first | exact True.intro | refine And.intro ?_ ?_)))); all_goals (first | exact ob1 | exact fn_markI _ _ h.hCells (by omega) | skip)))))
  all_goals (unfold cPn; first | rfl | (rw [Nat.add_assoc]; done) | (simp only [Nat.add_assoc]; done))
def c_heldPn (x : GPlan) (k : Nat) : CFD := ⟨75, [.agg [(CV.lit (.int .i64 (x.Keep))), (CV.lit (.int .i64 (x.Move))), ro 3 1 Tr.eI (mkI (k) x.Cells.length)], (SV.one (.lit (.int .i64 ((k : Int)))))], [], (TV.sv (.one (.lit (.int .i64 (((k + cPn x : Nat) : Int)))))), [], [], []⟩
theorem fn_heldPn (x : GPlan) (k : Nat) (h : smPn x) (hk : k + cPn x ≤ 100000000) : Fn Tryz.prog (c_heldPn x k) := by
  unfold cPn at hk
  refine fn_intro tt_ok Tryz.func75 rfl Tryz.call75 Tryz.ntmps75 Tryz.results75 rfl rfl rfl rfl ?_
  intro X ρ0 hb_ hgl_
  dsimp only [c_heldPn]
  try refine nrm ?_
  repeat' (refine ar_id ?_; first | refine st1 ?_ | (first | ((first | refine ar_region (id := 1) tt_ok (inps := [.call (c_heldI x.Cells.length (k))]) rfl ?_ ?_ | refine ar_region tt_ok (inps := []) rfl ?_ ?_); rotate_left; (try dsimp only [c_heldI]); (try refine nrm ?_); rotate_right) | refine ret3 ?_ | refine end3 ?_) | (refine ar_cond rfl trivial ?_ ?_ <;> intro hc_ <;> (try simp only [isNilI, inB, reduceCtorEq, cds] at hc_) <;> (try (first | contradiction | (exfalso; omega)))) | refine ar_until (And.intro ?_ (wk3 ?_)))
  all_goals (first | refine ar_id ?_ | (try (focus ((try refine nrmO ?_); (repeat' (first | exact True.intro | refine And.intro ?_ ?_)); all_goals (try (intro (hg_ : _ = true); (try simp only [isNilI, inB, reduceCtorEq, cds] at hg_); (repeat' (first | exact True.intro | refine And.intro ?_ ?_)))); all_goals (first | exact ob1 | exact fn_heldI _ _ h.hCells (by omega) | skip)))))
  all_goals (unfold cPn; first | rfl | (rw [Nat.add_assoc]; done) | (simp only [Nat.add_assoc]; done) | omega)
def nJ (x : GJob) : Nat := nPn x.Plan
def cJ (x : GJob) : Nat := cPn x.Plan
structure smJ (x : GJob) : Prop where
  hPlan : smPn x.Plan
structure mxJ (x : GJob) : Prop where
  hPlan : mxPn x.Plan
theorem J_sm {x : GJob} (h : nJ x ≤ 1048576) : smJ x := by
  unfold nJ at h
  exact ⟨Pn_sm (by omega)⟩
theorem J_cn (x : GJob) : cJ x ≤ 2 * nJ x := by
  unfold cJ nJ
  have h_Plan := Pn_cn x.Plan
  omega
def c_szJ (x : GJob) (a v : Int) : CFD := ⟨20, [.agg [(CV.lit (.int .i64 (x.Plan.Keep))), (CV.lit (.int .i64 (x.Plan.Move))), ro 3 1 Tr.eI x.Plan.Cells, (CV.lit (.int .i64 (x.Phase))), (CV.lit (.int .i64 (x.Next)))], (SV.one (.lit (.int .i64 (a))))], [], (TV.sv (.one (.lit (.int .i64 (v))))), [], [], []⟩
theorem fn_szJ (x : GJob) (a v : Int) (hm : mxJ x) (ha : 0 ≤ a ∧ a ≤ 1048576) (hv : v = if a - (nJ x : Int) < 0 then -1 else a - (nJ x : Int)) : Fn Tryz.prog (c_szJ x a v) := by
  refine fn_intro tt_ok Tryz.func20 rfl Tryz.call20 Tryz.ntmps20 Tryz.results20 rfl rfl rfl rfl ?_
  intro X ρ0 hb_ hgl_
  dsimp only [c_szJ]
  try refine nrm ?_
  repeat' (refine ar_id ?_; first | refine st1 ?_ | (first | ((first | refine ar_region (id := 1) tt_ok (inps := [.call (c_szPn x.Plan (a) (v))]) rfl ?_ ?_ | refine ar_region tt_ok (inps := []) rfl ?_ ?_); rotate_left; (try dsimp only [c_szPn]); (try refine nrm ?_); rotate_right) | refine ret3 ?_ | refine end3 ?_) | (refine ar_cond rfl trivial ?_ ?_ <;> intro hc_ <;> (try simp only [isNilI, inB, reduceCtorEq, cds] at hc_) <;> (try (first | contradiction | (exfalso; omega)))) | refine ar_until (And.intro ?_ (wk3 ?_)))
  all_goals (first | refine ar_id ?_ | (try (focus ((try refine nrmO ?_); (repeat' (first | exact True.intro | refine And.intro ?_ ?_)); all_goals (try (intro (hg_ : _ = true); (try simp only [isNilI, inB, reduceCtorEq, cds] at hg_); (repeat' (first | exact True.intro | refine And.intro ?_ ?_)))); all_goals (first | exact ob1 | exact fn_szPn _ _ _ hm.hPlan (by omega) (by rw [hv]; unfold nJ; first | rfl | (split <;> split <;> omega)) | skip)))))
  all_goals (rw [hv]; unfold nJ; split <;> first | rfl | omega | (congr 1; omega))
def c_toJ (x : GJob) : CFD := ⟨24, [.agg [(CV.lit (.int .i64 (x.Plan.Keep))), (CV.lit (.int .i64 (x.Plan.Move))), ro 3 1 Tr.eI x.Plan.Cells, (CV.lit (.int .i64 (x.Phase))), (CV.lit (.int .i64 (x.Next)))]], [], .sv (.agg [(CV.lit (.int .i64 (x.Plan.Keep))), (CV.lit (.int .i64 (x.Plan.Move))), .hd 0, (CV.lit (.int .i64 (x.Phase))), (CV.lit (.int .i64 (x.Next)))]), [(0, some (.row 3 1 (x.Plan.Cells.map Tr.eI)))], [0], []⟩
theorem fn_toJ (x : GJob) (h : smJ x) : Fn Tryz.prog (c_toJ x) := by
  refine fn_intro tt_ok Tryz.func24 rfl Tryz.call24 Tryz.ntmps24 Tryz.results24 rfl rfl rfl rfl ?_
  intro X ρ0 hb_ hgl_
  dsimp only [c_toJ]
  try refine nrm ?_
  repeat' (refine ar_id ?_; first | refine st1 ?_ | (first | ((first | refine ar_region (id := 2) tt_ok (inps := [.call (c_toPn x.Plan)]) rfl ?_ ?_ | refine ar_region tt_ok (inps := []) rfl ?_ ?_); rotate_left; (try dsimp only [c_toPn]); (try refine nrm ?_); rotate_right) | refine ret3 ?_ | refine end3 ?_) | (refine ar_cond rfl trivial ?_ ?_ <;> intro hc_ <;> (try simp only [isNilI, inB, reduceCtorEq, cds] at hc_) <;> (try (first | contradiction | (exfalso; omega)))) | refine ar_until (And.intro ?_ (wk3 ?_)))
  all_goals (first | refine ar_id ?_ | (try (focus ((try refine nrmO ?_); (repeat' (first | exact True.intro | refine And.intro ?_ ?_)); all_goals (try (intro (hg_ : _ = true); (try simp only [isNilI, inB, reduceCtorEq, cds] at hg_); (repeat' (first | exact True.intro | refine And.intro ?_ ?_)))); all_goals (first | exact ob1 | exact fn_toPn _ h.hPlan | skip)))))
def c_eqJ (x : GJob) : CFD := ⟨28, [.agg [(CV.lit (.int .i64 (x.Plan.Keep))), (CV.lit (.int .i64 (x.Plan.Move))), ro 3 1 Tr.eI x.Plan.Cells, (CV.lit (.int .i64 (x.Phase))), (CV.lit (.int .i64 (x.Next)))], .agg [(CV.lit (.int .i64 (x.Plan.Keep))), (CV.lit (.int .i64 (x.Plan.Move))), ro 3 1 Tr.eI x.Plan.Cells, (CV.lit (.int .i64 (x.Phase))), (CV.lit (.int .i64 (x.Next)))]], [], (TV.sv (.one (.lit (.bool (true))))), [], [], []⟩
theorem fn_eqJ (x : GJob) (h : smJ x) : Fn Tryz.prog (c_eqJ x) := by
  refine fn_intro tt_ok Tryz.func28 rfl Tryz.call28 Tryz.ntmps28 Tryz.results28 rfl rfl rfl rfl ?_
  intro X ρ0 hb_ hgl_
  dsimp only [c_eqJ]
  try refine nrm ?_
  repeat' (refine ar_id ?_; first | refine st1 ?_ | (first | ((first | refine ar_region (id := 1) tt_ok (inps := [.call (c_eqPn x.Plan)]) rfl ?_ ?_ | refine ar_region tt_ok (inps := []) rfl ?_ ?_); rotate_left; (try dsimp only [c_eqPn]); (try refine nrm ?_); rotate_right) | refine ret3 ?_ | refine end3 ?_) | (refine ar_cond rfl trivial ?_ ?_ <;> intro hc_ <;> (try simp only [isNilI, inB, reduceCtorEq, cds] at hc_) <;> (try (first | contradiction | (exfalso; omega)))) | refine ar_until (And.intro ?_ (wk3 ?_)))
  all_goals (first | refine ar_id ?_ | (try (focus ((try refine nrmO ?_); (repeat' (first | exact True.intro | refine And.intro ?_ ?_)); all_goals (try (intro (hg_ : _ = true); (try simp only [isNilI, inB, reduceCtorEq, cds] at hg_); (repeat' (first | exact True.intro | refine And.intro ?_ ?_)))); all_goals (first | exact ob1 | exact fn_eqPn _ h.hPlan | skip)))))
def c_markJ (x : GJob) (k : Nat) : CFD := ⟨32, [.agg [(CV.lit (.int .i64 (x.Plan.Keep))), (CV.lit (.int .i64 (x.Plan.Move))), .hd 700, (CV.lit (.int .i64 (x.Phase))), (CV.lit (.int .i64 (x.Next)))], (SV.one (.lit (.int .i64 ((k : Int)))))], [(700, some (.row 3 1 (x.Plan.Cells.map Tr.eI)))], (TV.sv (.one (.lit (.int .i64 (((k + cJ x : Nat) : Int)))))), [(700, some (.row 3 1 ((mkI (k) x.Plan.Cells.length).map Tr.eI)))], [], []⟩
theorem fn_markJ (x : GJob) (k : Nat) (h : smJ x) (hk : k + cJ x ≤ 100000000) : Fn Tryz.prog (c_markJ x k) := by
  unfold cJ at hk
  refine fn_intro tt_ok Tryz.func32 rfl Tryz.call32 Tryz.ntmps32 Tryz.results32 rfl rfl rfl rfl ?_
  intro X ρ0 hb_ hgl_
  dsimp only [c_markJ]
  try refine nrm ?_
  repeat' (refine ar_id ?_; first | refine st1 ?_ | (first | ((first | refine ar_region (id := 1) tt_ok (inps := [.call (c_markPn x.Plan (k))]) rfl ?_ ?_ | refine ar_region tt_ok (inps := []) rfl ?_ ?_); rotate_left; (try dsimp only [c_markPn]); (try refine nrm ?_); rotate_right) | refine ret3 ?_ | refine end3 ?_) | (refine ar_cond rfl trivial ?_ ?_ <;> intro hc_ <;> (try simp only [isNilI, inB, reduceCtorEq, cds] at hc_) <;> (try (first | contradiction | (exfalso; omega)))) | refine ar_until (And.intro ?_ (wk3 ?_)))
  all_goals (first | refine ar_id ?_ | (try (focus ((try refine nrmO ?_); (repeat' (first | exact True.intro | refine And.intro ?_ ?_)); all_goals (try (intro (hg_ : _ = true); (try simp only [isNilI, inB, reduceCtorEq, cds] at hg_); (repeat' (first | exact True.intro | refine And.intro ?_ ?_)))); all_goals (first | exact ob1 | exact fn_markPn _ _ h.hPlan (by omega) | skip)))))
  all_goals (unfold cJ; first | rfl | (rw [Nat.add_assoc]; done) | (simp only [Nat.add_assoc]; done))
def c_heldJ (x : GJob) (k : Nat) : CFD := ⟨36, [.agg [(CV.lit (.int .i64 (x.Plan.Keep))), (CV.lit (.int .i64 (x.Plan.Move))), ro 3 1 Tr.eI (mkI (k) x.Plan.Cells.length), (CV.lit (.int .i64 (x.Phase))), (CV.lit (.int .i64 (x.Next)))], (SV.one (.lit (.int .i64 ((k : Int)))))], [], (TV.sv (.one (.lit (.int .i64 (((k + cJ x : Nat) : Int)))))), [], [], []⟩
theorem fn_heldJ (x : GJob) (k : Nat) (h : smJ x) (hk : k + cJ x ≤ 100000000) : Fn Tryz.prog (c_heldJ x k) := by
  unfold cJ at hk
  refine fn_intro tt_ok Tryz.func36 rfl Tryz.call36 Tryz.ntmps36 Tryz.results36 rfl rfl rfl rfl ?_
  intro X ρ0 hb_ hgl_
  dsimp only [c_heldJ]
  try refine nrm ?_
  repeat' (refine ar_id ?_; first | refine st1 ?_ | (first | ((first | refine ar_region (id := 1) tt_ok (inps := [.call (c_heldPn x.Plan (k))]) rfl ?_ ?_ | refine ar_region tt_ok (inps := []) rfl ?_ ?_); rotate_left; (try dsimp only [c_heldPn]); (try refine nrm ?_); rotate_right) | refine ret3 ?_ | refine end3 ?_) | (refine ar_cond rfl trivial ?_ ?_ <;> intro hc_ <;> (try simp only [isNilI, inB, reduceCtorEq, cds] at hc_) <;> (try (first | contradiction | (exfalso; omega)))) | refine ar_until (And.intro ?_ (wk3 ?_)))
  all_goals (first | refine ar_id ?_ | (try (focus ((try refine nrmO ?_); (repeat' (first | exact True.intro | refine And.intro ?_ ?_)); all_goals (try (intro (hg_ : _ = true); (try simp only [isNilI, inB, reduceCtorEq, cds] at hg_); (repeat' (first | exact True.intro | refine And.intro ?_ ?_)))); all_goals (first | exact ob1 | exact fn_heldPn _ _ h.hPlan (by omega) | skip)))))
  all_goals (unfold cJ; first | rfl | (rw [Nat.add_assoc]; done) | (simp only [Nat.add_assoc]; done) | omega)
end Eng
end Go.Proofs.YtabnglcabpijfaaGreatDoor
namespace Go.Proofs.YtabnglcabpijfaaGreatDoor
open Go.RowKit
namespace Tr
def noW : GWriter := ⟨0, 0, false, 0⟩
end Tr
end Go.Proofs.YtabnglcabpijfaaGreatDoor
namespace Go.Proofs.YtabnglcabpijfaaGreatDoor
open Go.RowKit
set_option linter.unusedVariables false
set_option linter.unusedSimpArgs false
set_option maxRecDepth 100000
namespace Eng
open Tr
/-- the writer with the marks k, k + 1, .. -/
def wMk (k : Nat) : GWriter := ⟨(k : Int), ((k + 1 : Nat) : Int), decide ((k + 2) % 3 = 0), ((k + 3 : Nat) : Int)⟩
/-- writers with marks -/
def mkW (k n : Nat) : List GWriter := (List.range n).map fun i => wMk (k + 4 * i)
theorem mkW_len (k n : Nat) : (mkW k n).length = n := by unfold mkW; rw [List.length_map, List.length_range]
theorem mkW_at {k n i : Nat} (h : i < n) : (mkW k n).getD i noW = wMk (k + 4 * i) := by
  unfold mkW
  rw [List.getD_eq_getElem?_getD, List.getElem?_map, List.getElem?_range h]
  rfl
theorem mkW_succ (k n : Nat) : mkW k (n + 1) = mkW k n ++ [wMk (k + 4 * n)] := by unfold mkW; rw [List.range_succ, List.map_append]; rfl
theorem mkW_set {l : List GWriter} {k i : Nat} (hi : i < l.length) : ((mkW k i ++ l.drop i).map eWriter).set i (eWriter (wMk (k + 4 * i))) = (mkW k (i + 1) ++ l.drop (i + 1)).map eWriter := by
  rw [← List.map_set, mid_set _ _ _ (mkW_len k i) (by rw [mkW_len, List.length_drop]; omega), mkW_succ, List.drop_drop, Nat.add_comm i 1]
def c_szWS (l : List GWriter) (a v : Int) : CFD := ⟨21, [.one (ro 120 4 eWriter l), (SV.one (.lit (.int .i64 (a))))], [], (TV.sv (.one (.lit (.int .i64 (v))))), [], [], []⟩
theorem fn_szWS (l : List GWriter) (a v : Int) (hm : l.length ≤ 9223372036854775807) (ha : 0 ≤ a ∧ a ≤ 1048576) (hv : v = if a - (l.length : Int) < 0 then -1 else a - (l.length : Int)) : Fn Tryz.prog (c_szWS l a v) := by
  refine fn_intro tt_ok Tryz.func21 rfl Tryz.call21 Tryz.ntmps21 Tryz.results21 rfl rfl rfl rfl ?_
  intro X ρ0 hb_ hgl_
  dsimp only [c_szWS]
  try refine nrm ?_
  repeat' (refine ar_id ?_; first | refine st1 ?_ | (first | ((first | refine ar_region tt_ok (inps := []) rfl ?_ ?_); rotate_left; (try refine nrm ?_); rotate_right) | refine ret3 ?_ | refine end3 ?_) | (refine ar_cond rfl trivial ?_ ?_ <;> intro hc_ <;> (try simp only [isNilI, inB, reduceCtorEq, cds] at hc_) <;> (try (first | contradiction | (exfalso; omega)))) | refine ar_until (And.intro ?_ (wk3 ?_)))
  all_goals (first | refine ar_id ?_ | (try (focus ((try refine nrmO ?_); (repeat' (first | exact True.intro | refine And.intro ?_ ?_)); all_goals (try (intro (hg_ : _ = true); (try simp only [isNilI, inB, reduceCtorEq, cds] at hg_); (repeat' (first | exact True.intro | refine And.intro ?_ ?_)))); all_goals (first | exact ob1 | skip)))))
  all_goals (rw [hv]; split <;> first | rfl | omega)
def c_toW (e : GWriter) : CFD := ⟨67, [.agg [(CV.lit (.int .i64 (e.Addr))), (CV.lit (.int .i64 (e.Value))), (CV.lit (.bool (e.Done))), (CV.lit (.int .i64 (e.Waits)))]], [], .sv (.agg [(CV.lit (.int .i64 (e.Addr))), (CV.lit (.int .i64 (e.Value))), (CV.lit (.bool (e.Done))), (CV.lit (.int .i64 (e.Waits)))]), [], [], []⟩
theorem fn_toW (e : GWriter) : Fn Tryz.prog (c_toW e) := by
  refine fn_intro tt_ok Tryz.func67 rfl Tryz.call67 Tryz.ntmps67 Tryz.results67 rfl rfl rfl rfl ?_
  intro X ρ0 hb_ hgl_
  dsimp only [c_toW]
  try refine nrm ?_
  repeat' (refine ar_id ?_; first | refine st1 ?_ | (first | ((first | refine ar_region tt_ok (inps := []) rfl ?_ ?_); rotate_left; (try refine nrm ?_); rotate_right) | refine ret3 ?_ | refine end3 ?_) | (refine ar_cond rfl trivial ?_ ?_ <;> intro hc_ <;> (try simp only [isNilI, inB, reduceCtorEq, cds] at hc_) <;> (try (first | contradiction | (exfalso; omega)))) | refine ar_until (And.intro ?_ (wk3 ?_)))
  all_goals (first | refine ar_id ?_ | (try (focus ((try refine nrmO ?_); (repeat' (first | exact True.intro | refine And.intro ?_ ?_)); all_goals (try (intro (hg_ : _ = true); (try simp only [isNilI, inB, reduceCtorEq, cds] at hg_); (repeat' (first | exact True.intro | refine And.intro ?_ ?_)))); all_goals (first | exact ob1 | skip)))))
def c_toWS (l : List GWriter) : CFD := ⟨25, [.one (ro 120 4 eWriter l)], [], .sv (.one (.hd 0)), [(0, some (.row 46 4 (l.map eWriter)))], [0], []⟩
theorem fn_toWS (l : List GWriter) (hl : l.length ≤ 1048576) : Fn Tryz.prog (c_toWS l) := by
  refine fn_intro tt_ok Tryz.func25 rfl Tryz.call25 Tryz.ntmps25 Tryz.results25 rfl rfl rfl rfl ?_
  intro X ρ0 hb_ hgl_
  dsimp only [c_toWS]
  try refine nrm ?_
  repeat' (refine ar_id ?_; first | refine st1 ?_ | (first | ((first | refine ar_region tt_ok (inps := []) rfl ?_ ?_); rotate_left; (try refine nrm ?_); rotate_right) | refine ret3 ?_ | refine end3 ?_) | (refine ar_cond rfl trivial ?_ ?_ <;> intro hc_ <;> (try simp only [isNilI, inB, reduceCtorEq, cds] at hc_) <;> (try (first | contradiction | (exfalso; omega)))) | refine ar_until (And.intro ?_ (wk3 ?_)))
  all_goals (first | refine ar_id ?_ | (try (focus ((try refine nrmO ?_); (repeat' (first | exact True.intro | refine And.intro ?_ ?_)); all_goals (try (intro (hg_ : _ = true); (try simp only [isNilI, inB, reduceCtorEq, cds] at hg_); (repeat' (first | exact True.intro | refine And.intro ?_ ?_)))); all_goals (first | exact ob1 | skip)))))
  refine ar_keep 29 (by dsimp only [keepS] <;> exact rfl) ?_
  refine ar_forM (l.length) (fun i => True) (fun i => [(4, (TV.sv (.one (.lit (.int .i64 (i)))))), (3, (TV.sv (.one (.hd 7))))]) (fun i => [(7, some (.row 46 4 ((l.take i ++ List.replicate (l.length - i) noW).map eWriter)))]) ?_ ?_ ?_
  rotate_left
  · first | trivial | simp
  (dsimp only [rnCap, capSVs, Int.toNat_natCast, ro, Nat.reduceAdd, Nat.reduceMul, Nat.zero_add, List.map, putT, app, wrapG, gOb, argT, keys, slotOf, dropped, gAnd, wB, rnT, rnS, rnC, rnCs, rnSs, rnM, rnB, rnN, rn, lk, St.over, ded, delL, keepT, menT, menSs, menS, menCs, menC, hasN, resT, SV.cells]; refine wk3 ?_; (focus ((try refine nrmO ?_); (repeat' (first | exact True.intro | refine And.intro ?_ ?_)); all_goals (try (intro (hg_ : _ = true); (try simp only [isNilI, inB, reduceCtorEq, cds] at hg_); (repeat' (first | exact True.intro | refine And.intro ?_ ?_)))); all_goals (first | exact ob1 | exact rfl | skip))))
  rotate_right
  intro i hi_ hiI_
  dsimp only [rnCap, capSVs, Int.toNat_natCast, ro, Nat.reduceAdd, Nat.reduceMul, Nat.zero_add, List.map, putT, app, wrapG, gOb, argT, keys, slotOf, dropped, gAnd, wB, rnT, rnS, rnC, rnCs, rnSs, rnM, rnB, rnN, rn, lk, St.over, ded, delL, keepT, menT, menSs, menS, menCs, menC, hasN, resT, SV.cells]
  have hlen : (l.take i ++ List.replicate (l.length - i) noW).length = l.length := by rw [List.length_append, List.length_take, List.length_replicate]; omega
  repeat' (refine ar_id ?_; first | refine st1 ?_ | (refine ar_drawS (id := 5) tt_ok (by kernel_rfl) [.elem (eWriter (l.getD i noW)), .call (c_toW (l.getD i noW)), .elem (eWriter ((l.take i ++ List.replicate (l.length - i) noW).getD i noW))] ?_; refine ed_hide ?_; intro K_ hK_; repeat' (first | ((first | refine ed_call3 ?_ | refine ed_sure3 ?_ | refine ed_cons3 ?_); refine ed_hide ?_; intro K_ hK_; (try dsimp only [c_toW]); (try refine nrmE ?_)) | (refine ed_nil ?_; (repeat subst hK_); dsimp only; refine Exists.intro _ (And.intro rfl (And.intro (by kernel_rfl) (And.intro ?_ ?_))); rotate_left; (try dsimp only [c_toW]); (try refine nrm ?_); rotate_right))) | (first | ((first | refine ar_region (id := 5) tt_ok (inps := [.elem (eWriter (l.getD i noW)), .call (c_toW (l.getD i noW)), .elem (eWriter ((l.take i ++ List.replicate (l.length - i) noW).getD i noW))]) rfl ?_ ?_ | refine ar_region tt_ok (inps := []) rfl ?_ ?_); rotate_left; (try dsimp only [c_toW]); (try refine nrm ?_); rotate_right) | refine ret3 ?_ | refine end3 ?_) | (refine ar_cond rfl trivial ?_ ?_ <;> intro hc_ <;> (try simp only [isNilI, inB, reduceCtorEq, cds] at hc_) <;> (try (first | contradiction | (exfalso; omega)))) | refine ar_until (And.intro ?_ (wk3 ?_)))
  all_goals (first | refine ar_id ?_ | (try (focus ((try refine nrmO ?_); (repeat' (first | exact True.intro | refine And.intro ?_ ?_)); all_goals (try (intro (hg_ : _ = true); (try simp only [isNilI, inB, reduceCtorEq, cds] at hg_); (repeat' (first | exact True.intro | refine And.intro ?_ ?_)))); all_goals (first | exact ob1 | exact fn_toW _ | skip)))))
  · exact to_set (E := eWriter) (by omega)
  · rw [show i = l.length by omega, List.take_length, Nat.sub_self]; rw [show List.replicate 0 noW = [] from rfl, List.append_nil]
  · rw [Nat.sub_zero, show l.take 0 = [] from rfl, List.nil_append, List.map_replicate]; rfl
def c_eqW (e : GWriter) : CFD := ⟨70, [.agg [(CV.lit (.int .i64 (e.Addr))), (CV.lit (.int .i64 (e.Value))), (CV.lit (.bool (e.Done))), (CV.lit (.int .i64 (e.Waits)))], .agg [(CV.lit (.int .i64 (e.Addr))), (CV.lit (.int .i64 (e.Value))), (CV.lit (.bool (e.Done))), (CV.lit (.int .i64 (e.Waits)))]], [], (TV.sv (.one (.lit (.bool (true))))), [], [], []⟩
theorem fn_eqW (e : GWriter) : Fn Tryz.prog (c_eqW e) := by
  refine fn_intro tt_ok Tryz.func70 rfl Tryz.call70 Tryz.ntmps70 Tryz.results70 rfl rfl rfl rfl ?_
  intro X ρ0 hb_ hgl_
  dsimp only [c_eqW]
  try refine nrm ?_
  repeat' (refine ar_id ?_; first | refine st1 ?_ | (first | ((first | refine ar_region tt_ok (inps := []) rfl ?_ ?_); rotate_left; (try refine nrm ?_); rotate_right) | refine ret3 ?_ | refine end3 ?_) | (refine ar_cond rfl trivial ?_ ?_ <;> intro hc_ <;> (try simp only [isNilI, inB, reduceCtorEq, cds] at hc_) <;> (try (first | contradiction | (exfalso; omega)))) | refine ar_until (And.intro ?_ (wk3 ?_)))
  all_goals (first | refine ar_id ?_ | (try (focus ((try refine nrmO ?_); (repeat' (first | exact True.intro | refine And.intro ?_ ?_)); all_goals (try (intro (hg_ : _ = true); (try simp only [isNilI, inB, reduceCtorEq, cds] at hg_); (repeat' (first | exact True.intro | refine And.intro ?_ ?_)))); all_goals (first | exact ob1 | skip)))))
def c_eqWS (l : List GWriter) : CFD := ⟨29, [.one (ro 46 4 eWriter l), .one (ro 46 4 eWriter l)], [], (TV.sv (.one (.lit (.bool (true))))), [], [], []⟩
theorem fn_eqWS (l : List GWriter) (hl : l.length ≤ 1048576) : Fn Tryz.prog (c_eqWS l) := by
  refine fn_intro tt_ok Tryz.func29 rfl Tryz.call29 Tryz.ntmps29 Tryz.results29 rfl rfl rfl rfl ?_
  intro X ρ0 hb_ hgl_
  dsimp only [c_eqWS]
  try refine nrm ?_
  repeat' (refine ar_id ?_; first | refine st1 ?_ | (first | ((first | refine ar_region tt_ok (inps := []) rfl ?_ ?_); rotate_left; (try refine nrm ?_); rotate_right) | refine ret3 ?_ | refine end3 ?_) | (refine ar_cond rfl trivial ?_ ?_ <;> intro hc_ <;> (try simp only [isNilI, inB, reduceCtorEq, cds] at hc_) <;> (try (first | contradiction | (exfalso; omega)))) | refine ar_until (And.intro ?_ (wk3 ?_)))
  all_goals (first | refine ar_id ?_ | (try (focus ((try refine nrmO ?_); (repeat' (first | exact True.intro | refine And.intro ?_ ?_)); all_goals (try (intro (hg_ : _ = true); (try simp only [isNilI, inB, reduceCtorEq, cds] at hg_); (repeat' (first | exact True.intro | refine And.intro ?_ ?_)))); all_goals (first | exact ob1 | skip)))))
  refine ar_keep 51 (by dsimp only [keepS] <;> exact rfl) ?_
  refine ar_forM (l.length) (fun i => True) (fun i => [(5, (TV.sv (.one (.lit (.int .i64 (i))))))]) (fun i => []) ?_ ?_ ?_
  rotate_left
  · first | trivial | simp
  (dsimp only [rnCap, capSVs, Int.toNat_natCast, ro, Nat.reduceAdd, Nat.reduceMul, Nat.zero_add, List.map, putT, app, wrapG, gOb, argT, keys, slotOf, dropped, gAnd, wB, rnT, rnS, rnC, rnCs, rnSs, rnM, rnB, rnN, rn, lk, St.over, ded, delL, keepT, menT, menSs, menS, menCs, menC, hasN, resT, SV.cells]; refine wk3 ?_; (focus ((try refine nrmO ?_); (repeat' (first | exact True.intro | refine And.intro ?_ ?_)); all_goals (try (intro (hg_ : _ = true); (try simp only [isNilI, inB, reduceCtorEq, cds] at hg_); (repeat' (first | exact True.intro | refine And.intro ?_ ?_)))); all_goals (first | exact ob1 | exact rfl | skip))))
  rotate_right
  intro i hi_ hiI_
  dsimp only [rnCap, capSVs, Int.toNat_natCast, ro, Nat.reduceAdd, Nat.reduceMul, Nat.zero_add, List.map, putT, app, wrapG, gOb, argT, keys, slotOf, dropped, gAnd, wB, rnT, rnS, rnC, rnCs, rnSs, rnM, rnB, rnN, rn, lk, St.over, ded, delL, keepT, menT, menSs, menS, menCs, menC, hasN, resT, SV.cells]
  repeat' (refine ar_id ?_; first | refine st1 ?_ | (refine ar_drawS (id := 6) tt_ok (by kernel_rfl) [.elem (eWriter (l.getD i noW)), .elem (eWriter (l.getD i noW)), .call (c_eqW (l.getD i noW))] ?_; refine ed_hide ?_; intro K_ hK_; repeat' (first | ((first | refine ed_call3 ?_ | refine ed_sure3 ?_ | refine ed_cons3 ?_); refine ed_hide ?_; intro K_ hK_; (try dsimp only [c_eqW]); (try refine nrmE ?_)) | (refine ed_nil ?_; (repeat subst hK_); dsimp only; refine Exists.intro _ (And.intro rfl (And.intro (by kernel_rfl) (And.intro ?_ ?_))); rotate_left; (try dsimp only [c_eqW]); (try refine nrm ?_); rotate_right))) | (first | ((first | refine ar_region tt_ok (inps := []) rfl ?_ ?_); rotate_left; (try dsimp only [c_eqW]); (try refine nrm ?_); rotate_right) | refine ret3 ?_ | refine end3 ?_) | (refine ar_cond rfl trivial ?_ ?_ <;> intro hc_ <;> (try simp only [isNilI, inB, reduceCtorEq, cds] at hc_) <;> (try (first | contradiction | (exfalso; omega)))) | refine ar_until (And.intro ?_ (wk3 ?_)))
  all_goals (first | refine ar_id ?_ | (try (focus ((try refine nrmO ?_); (repeat' (first | exact True.intro | refine And.intro ?_ ?_)); all_goals (try (intro (hg_ : _ = true); (try simp only [isNilI, inB, reduceCtorEq, cds] at hg_); (repeat' (first | exact True.intro | refine And.intro ?_ ?_)))); all_goals (first | exact ob1 | exact fn_eqW _ | skip)))))
  all_goals trace_state
def c_markWS (l : List GWriter) (k : Nat) : CFD := ⟨33, [.one (.hd 0), (SV.one (.lit (.int .i64 ((k : Int)))))], [(0, some (.row 46 4 (l.map eWriter)))], (TV.sv (.one (.lit (.int .i64 (((k + 4 * l.length : Nat) : Int)))))), [(0, some (.row 46 4 ((mkW k l.length).map eWriter)))], [], []⟩
theorem fn_markWS (l : List GWriter) (k : Nat) (hl : l.length ≤ 1048576) (hk : k ≤ 1000000000) : Fn Tryz.prog (c_markWS l k) := by
  refine fn_intro tt_ok Tryz.func33 rfl Tryz.call33 Tryz.ntmps33 Tryz.results33 rfl rfl rfl rfl ?_
  intro X ρ0 hb_ hgl_
  dsimp only [c_markWS]
  try refine nrm ?_
  repeat' (refine ar_id ?_; first | refine st1 ?_ | (first | ((first | refine ar_region tt_ok (inps := []) rfl ?_ ?_); rotate_left; (try refine nrm ?_); rotate_right) | refine ret3 ?_ | refine end3 ?_) | (refine ar_cond rfl trivial ?_ ?_ <;> intro hc_ <;> (try simp only [isNilI, inB, reduceCtorEq, cds] at hc_) <;> (try (first | contradiction | (exfalso; omega)))) | refine ar_until (And.intro ?_ (wk3 ?_)))
  all_goals (first | refine ar_id ?_ | (try (focus ((try refine nrmO ?_); (repeat' (first | exact True.intro | refine And.intro ?_ ?_)); all_goals (try (intro (hg_ : _ = true); (try simp only [isNilI, inB, reduceCtorEq, cds] at hg_); (repeat' (first | exact True.intro | refine And.intro ?_ ?_)))); all_goals (first | exact ob1 | skip)))))
  refine ar_keep 51 (by dsimp only [keepS] <;> exact rfl) ?_
  refine ar_forM (l.length) (fun i => True) (fun i => [(5, (TV.sv (.one (.lit (.int .i64 (i)))))), (1, (TV.sv (.one (.lit (.int .i64 (((k + 4 * i : Nat) : Int))))))), (0, (TV.sv (.one (.hd 0))))]) (fun i => [(0, some (.row 46 4 ((mkW k i ++ l.drop i).map eWriter)))]) ?_ ?_ ?_
  rotate_left
  · first | trivial | simp
  (dsimp only [rnCap, capSVs, Int.toNat_natCast, ro, Nat.reduceAdd, Nat.reduceMul, Nat.zero_add, List.map, putT, app, wrapG, gOb, argT, keys, slotOf, dropped, gAnd, wB, rnT, rnS, rnC, rnCs, rnSs, rnM, rnB, rnN, rn, lk, St.over, ded, delL, keepT, menT, menSs, menS, menCs, menC, hasN, resT, SV.cells]; refine wk3 ?_; (focus ((try refine nrmO ?_); (repeat' (first | exact True.intro | refine And.intro ?_ ?_)); all_goals (try (intro (hg_ : _ = true); (try simp only [isNilI, inB, reduceCtorEq, cds] at hg_); (repeat' (first | exact True.intro | refine And.intro ?_ ?_)))); all_goals (first | exact ob1 | exact rfl | skip))))
  rotate_right
  intro i hi_ hiI_
  dsimp only [rnCap, capSVs, Int.toNat_natCast, ro, Nat.reduceAdd, Nat.reduceMul, Nat.zero_add, List.map, putT, app, wrapG, gOb, argT, keys, slotOf, dropped, gAnd, wB, rnT, rnS, rnC, rnCs, rnSs, rnM, rnB, rnN, rn, lk, St.over, ded, delL, keepT, menT, menSs, menS, menCs, menC, hasN, resT, SV.cells]
  have hlen : i ≤ l.length → (mkW k i ++ l.drop i).length = l.length := fun h => by rw [List.length_append, mkW_len, List.length_drop]; omega
  have ht : inK .i64 (((k + 4 * i + 2 : Nat) : Int).tmod 3) := by rw [Int.tmod_eq_emod_of_nonneg (by omega)]; exact i64_ok (by omega) (by omega)
  have hD : ((((k + 4 * i : Nat) : Int) + 1 + 1).tmod 3 == 0) = decide ((k + 4 * i + 2) % 3 = 0) := mod3 (k + 4 * i + 2)
  obtain ⟨e, he⟩ : ∃ e, (mkW k i ++ l.drop i).getD i noW = e := ⟨_, rfl⟩
  repeat' (refine ar_id ?_; first | refine st1 ?_ | (first | ((first | refine ar_region (id := 4) tt_ok (inps := [.elem (eWriter e)]) rfl ?_ ?_ | refine ar_region (id := 6) tt_ok (inps := [.elem (eWriter ⟨((k + 4 * i : Nat) : Int), e.Value, e.Done, e.Waits⟩)]) rfl ?_ ?_ | refine ar_region (id := 8) tt_ok (inps := [.elem (eWriter ⟨((k + 4 * i : Nat) : Int), ((k + 4 * i + 1 : Nat) : Int), e.Done, e.Waits⟩)]) rfl ?_ ?_ | refine ar_region (id := 10) tt_ok (inps := [.elem (eWriter ⟨((k + 4 * i : Nat) : Int), ((k + 4 * i + 1 : Nat) : Int), decide ((k + 4 * i + 2) % 3 = 0), e.Waits⟩)]) rfl ?_ ?_ | refine ar_region tt_ok (inps := []) rfl ?_ ?_); rotate_left; (try refine nrm ?_); rotate_right) | refine ret3 ?_ | refine end3 ?_) | (refine ar_cond rfl trivial ?_ ?_ <;> intro hc_ <;> (try simp only [isNilI, inB, reduceCtorEq, cds] at hc_) <;> (try (first | contradiction | (exfalso; omega)))) | refine ar_until (And.intro ?_ (wk3 ?_)))
  all_goals (first | refine ar_id ?_ | (try (focus ((try refine nrmO ?_); (repeat' (first | exact True.intro | refine And.intro ?_ ?_)); all_goals (try (intro (hg_ : _ = true); (try simp only [isNilI, inB, reduceCtorEq, cds] at hg_); (repeat' (first | exact True.intro | refine And.intro ?_ ?_)))); all_goals (first | exact ob1 | exact (he ▸ map_at (by rw [hlen (by omega)]; omega)) | skip)))))
  · show 0 + 0 + 1 ≤ 4; omega
  · rw [List.length_set, List.length_map]; exact hc_
  · rw [Int.toNat_natCast, List.getElem?_set_self (by rw [List.length_map]; omega)]; rfl
  · show 0 + 1 + 1 ≤ 4; omega
  · rw [List.length_set, List.length_set, List.length_map]; exact hc_
  · rw [List.set_set, Int.toNat_natCast, List.getElem?_set_self (by rw [List.length_map]; omega)]; rfl
  · show 0 + 2 + 1 ≤ 4; omega
  · rw [List.length_set, List.length_set, List.length_set, List.length_map]; exact hc_
  · rw [hD, List.set_set, List.set_set, Int.toNat_natCast, List.getElem?_set_self (by rw [List.length_map]; omega)]; rfl
  · rw [List.set_set, List.set_set, List.set_set]
    exact mkW_set (by have := hlen (by omega); omega)
  · have := hlen (by omega)
    rw [show i = l.length by omega, List.drop_length, List.append_nil]
def c_heldWS (n k : Nat) : CFD := ⟨37, [.one (ro 46 4 eWriter (mkW k n)), (SV.one (.lit (.int .i64 ((k : Int)))))], [], (TV.sv (.one (.lit (.int .i64 (((k + 4 * n : Nat) : Int)))))), [], [], []⟩
theorem fn_heldWS (n k : Nat) (hl : n ≤ 1048576) (hk : k ≤ 1000000000) : Fn Tryz.prog (c_heldWS n k) := by
  have hln := mkW_len k n
  refine fn_intro tt_ok Tryz.func37 rfl Tryz.call37 Tryz.ntmps37 Tryz.results37 rfl rfl rfl rfl ?_
  intro X ρ0 hb_ hgl_
  dsimp only [c_heldWS]
  try refine nrm ?_
  repeat' (refine ar_id ?_; first | refine st1 ?_ | (first | ((first | refine ar_region tt_ok (inps := []) rfl ?_ ?_); rotate_left; (try refine nrm ?_); rotate_right) | refine ret3 ?_ | refine end3 ?_) | (refine ar_cond rfl trivial ?_ ?_ <;> intro hc_ <;> (try simp only [isNilI, inB, reduceCtorEq, cds] at hc_) <;> (try (first | contradiction | (exfalso; omega)))) | refine ar_until (And.intro ?_ (wk3 ?_)))
  all_goals (first | refine ar_id ?_ | (try (focus ((try refine nrmO ?_); (repeat' (first | exact True.intro | refine And.intro ?_ ?_)); all_goals (try (intro (hg_ : _ = true); (try simp only [isNilI, inB, reduceCtorEq, cds] at hg_); (repeat' (first | exact True.intro | refine And.intro ?_ ?_)))); all_goals (first | exact ob1 | skip)))))
  refine ar_keep 51 (by dsimp only [keepS] <;> exact rfl) ?_
  refine ar_forM (n) (fun i => True) (fun i => [(5, (TV.sv (.one (.lit (.int .i64 (i)))))), (1, (TV.sv (.one (.lit (.int .i64 (((k + 4 * i : Nat) : Int)))))))]) (fun i => []) ?_ ?_ ?_
  rotate_left
  · first | trivial | simp
  (dsimp only [rnCap, capSVs, Int.toNat_natCast, ro, Nat.reduceAdd, Nat.reduceMul, Nat.zero_add, List.map, putT, app, wrapG, gOb, argT, keys, slotOf, dropped, gAnd, wB, rnT, rnS, rnC, rnCs, rnSs, rnM, rnB, rnN, rn, lk, St.over, ded, delL, keepT, menT, menSs, menS, menCs, menC, hasN, resT, SV.cells]; refine wk3 ?_; (focus ((try refine nrmO ?_); (repeat' (first | exact True.intro | refine And.intro ?_ ?_)); all_goals (try (intro (hg_ : _ = true); (try simp only [isNilI, inB, reduceCtorEq, cds] at hg_); (repeat' (first | exact True.intro | refine And.intro ?_ ?_)))); all_goals (first | exact ob1 | exact rfl | skip))))
  rotate_right
  intro i hi_ hiI_
  dsimp only [rnCap, capSVs, Int.toNat_natCast, ro, Nat.reduceAdd, Nat.reduceMul, Nat.zero_add, List.map, putT, app, wrapG, gOb, argT, keys, slotOf, dropped, gAnd, wB, rnT, rnS, rnC, rnCs, rnSs, rnM, rnB, rnN, rn, lk, St.over, ded, delL, keepT, menT, menSs, menS, menCs, menC, hasN, resT, SV.cells]
  have hm : i < n → (mkW k n).getD i noW = wMk (k + 4 * i) := fun h => mkW_at h
  have hm1 : i < n → ((mkW k n).getD i noW).Addr = ((k + 4 * i : Nat) : Int) := fun h => by rw [hm h]; rfl
  have hm2 : i < n → ((mkW k n).getD i noW).Value = ((k + 4 * i + 1 : Nat) : Int) := fun h => by rw [hm h]; rfl
  have hm3 : i < n → ((mkW k n).getD i noW).Done = decide ((k + 4 * i + 2) % 3 = 0) := fun h => by rw [hm h]; rfl
  have hm4 : i < n → ((mkW k n).getD i noW).Waits = ((k + 4 * i + 3 : Nat) : Int) := fun h => by rw [hm h]; rfl
  have ht : inK .i64 (((k + 4 * i + 2 : Nat) : Int).tmod 3) := by rw [Int.tmod_eq_emod_of_nonneg (by omega)]; exact i64_ok (by omega) (by omega)
  repeat' (refine ar_id ?_; first | refine st1 ?_ | (first | ((first | refine ar_region (id := 4) tt_ok (inps := [.elem (eWriter ((mkW k n).getD i noW))]) rfl ?_ ?_ | refine ar_region (id := 7) tt_ok (inps := [.elem (eWriter ((mkW k n).getD i noW))]) rfl ?_ ?_ | refine ar_region (id := 10) tt_ok (inps := [.elem (eWriter ((mkW k n).getD i noW))]) rfl ?_ ?_ | refine ar_region (id := 13) tt_ok (inps := [.elem (eWriter ((mkW k n).getD i noW))]) rfl ?_ ?_ | refine ar_region tt_ok (inps := []) rfl ?_ ?_); rotate_left; (try refine nrm ?_); rotate_right) | refine ret3 ?_ | refine end3 ?_) | (refine ar_cond rfl trivial ?_ ?_ <;> intro hc_ <;> (try simp only [isNilI, inB, reduceCtorEq, cds] at hc_) <;> (try (first | contradiction | (exfalso; omega)))) | refine ar_until (And.intro ?_ (wk3 ?_)))
  all_goals (first | refine ar_id ?_ | (try (focus ((try refine nrmO ?_); (repeat' (first | exact True.intro | refine And.intro ?_ ?_)); all_goals (try (intro (hg_ : _ = true); (try simp only [isNilI, inB, reduceCtorEq, cds] at hg_); (repeat' (first | exact True.intro | refine And.intro ?_ ?_)))); all_goals (first | exact ob1 | exact ht | skip)))))
  exact absurd ((hm3 (by omega)).trans (mod3 (k + 4 * i + 2)).symm) hc_
end Eng
end Go.Proofs.YtabnglcabpijfaaGreatDoor
namespace Go.Proofs.YtabnglcabpijfaaGreatDoor
open Go.RowKit
set_option linter.unusedVariables false
set_option linter.unusedSimpArgs false
set_option maxRecDepth 100000
namespace Eng
open Tr
def c_SFinish (x0 : GKernel) (x1 : GJob) (x2 : List GWriter) (r0 : GKernel) (r1 : GJob) (r2 : List GWriter) : CFD := ⟨38, [.agg [ro 33 1 eIntS x0.Machine.Frames.Cells, ro 4 1 Tr.eB x0.Machine.Frames.Used, ro 42 2 eEntry x0.Machine.Table.Entries, (CV.lit (.int .i64 (x0.Calls))), ro 3 1 Tr.eI x0.Refuse], .agg [(CV.lit (.int .i64 (x1.Plan.Keep))), (CV.lit (.int .i64 (x1.Plan.Move))), ro 3 1 Tr.eI x1.Plan.Cells, (CV.lit (.int .i64 (x1.Phase))), (CV.lit (.int .i64 (x1.Next)))], .one (ro 46 4 eWriter x2)], [], .tup [.agg [.hd 0, .hd 1, .hd 2, (CV.lit (.int .i64 (r0.Calls))), .hd 3], .agg [(CV.lit (.int .i64 (r1.Plan.Keep))), (CV.lit (.int .i64 (r1.Plan.Move))), .hd 4, (CV.lit (.int .i64 (r1.Phase))), (CV.lit (.int .i64 (r1.Next)))], .one (.hd 5)], [(0, some (.row 33 1 (r0.Machine.Frames.Cells.map eIntS))), (1, some (.row 4 1 (r0.Machine.Frames.Used.map Tr.eB))), (2, some (.row 42 2 (r0.Machine.Table.Entries.map eEntry))), (3, some (.row 3 1 (r0.Refuse.map Tr.eI))), (4, some (.row 3 1 (r1.Plan.Cells.map Tr.eI))), (5, some (.row 46 4 (r2.map eWriter)))], [0, 1, 2, 3, 4, 5], []⟩
def c_IFinish (gl : List Glb) (x0 : GKernel) (x1 : GJob) (x2 : List GWriter) (r0 : GKernel) (r1 : GJob) (r2 : List GWriter) : CFD := ⟨13, [.agg [ro 33 1 eIntS x0.Machine.Frames.Cells, ro 4 1 Tr.eB x0.Machine.Frames.Used, ro 42 2 eEntry x0.Machine.Table.Entries, (CV.lit (.int .i64 (x0.Calls))), ro 3 1 Tr.eI x0.Refuse], .agg [(CV.lit (.int .i64 (x1.Plan.Keep))), (CV.lit (.int .i64 (x1.Plan.Move))), ro 3 1 Tr.eI x1.Plan.Cells, (CV.lit (.int .i64 (x1.Phase))), (CV.lit (.int .i64 (x1.Next)))], .one (ro 46 4 eWriter x2)], [], .tup [.agg [.hd 0, .hd 1, .hd 2, (CV.lit (.int .i64 (r0.Calls))), .hd 3], .agg [(CV.lit (.int .i64 (r1.Plan.Keep))), (CV.lit (.int .i64 (r1.Plan.Move))), .hd 4, (CV.lit (.int .i64 (r1.Phase))), (CV.lit (.int .i64 (r1.Next)))], .one (.hd 5)], [(0, some (.row 33 1 (r0.Machine.Frames.Cells.map eIntS))), (1, some (.row 4 1 (r0.Machine.Frames.Used.map Tr.eB))), (2, some (.row 42 2 (r0.Machine.Table.Entries.map eEntry))), (3, some (.row 3 1 (r0.Refuse.map Tr.eI))), (4, some (.row 3 1 (r1.Plan.Cells.map Tr.eI))), (5, some (.row 46 4 (r2.map eWriter)))], [0, 1, 2, 3, 4, 5], gl⟩
def c_XFinish (gl : List Glb) (x0 : GKernel) (x1 : GJob) (x2 : List GWriter) : CFD := ⟨6, [.agg [ro 33 1 eIntS x0.Machine.Frames.Cells, ro 4 1 Tr.eB x0.Machine.Frames.Used, ro 201 2 eEntry x0.Machine.Table.Entries, (CV.lit (.int .i64 (x0.Calls))), ro 3 1 Tr.eI x0.Refuse], .agg [(CV.lit (.int .i64 (x1.Plan.Keep))), (CV.lit (.int .i64 (x1.Plan.Move))), ro 3 1 Tr.eI x1.Plan.Cells, (CV.lit (.int .i64 (x1.Phase))), (CV.lit (.int .i64 (x1.Next)))], .one (ro 120 4 eWriter x2)], [], (TV.sv (.one (.lit (.bool (true))))), [], [], gl⟩
set_option maxHeartbeats 16000000 in
theorem fn_XFinish (gl : List Glb) (x0 : GKernel) (x1 : GJob) (x2 : List GWriter) (r0 : GKernel) (r1 : GJob) (r2 : List GWriter) (hm_x0 : mxK x0) (hm_x1 : mxJ x1) (hm_x2 : x2.length ≤ 9223372036854775807) (hR : nK x0 + nJ x1 + x2.length ≤ 1048576 → smK r0 ∧ smJ r1 ∧ r2.length ≤ 1048576 ∧ cK r0 + cJ r1 + 4 * r2.length ≤ 50000000 ∧ Fn Tryz.prog (c_SFinish x0 x1 x2 r0 r1 r2) ∧ Fn Tryz.prog (c_IFinish gl x0 x1 x2 r0 r1 r2)) : Fn Tryz.prog (c_XFinish gl x0 x1 x2) := by
  by_cases hz_x0 : 1048576 - ((nK x0 : Nat) : Int) < 0
  · skip
    refine fn_intro tt_ok Tryz.func6 rfl Tryz.call6 Tryz.ntmps6 Tryz.results6 rfl rfl rfl rfl ?_
    intro X ρ0 hb_ hgl_
    dsimp only [c_XFinish]
    try refine nrm ?_
    repeat' (refine ar_id ?_; first | refine st1 ?_ | (first | ((first | refine ar_region (id := 2) tt_ok (inps := [.call (c_szK x0 (1048576) (-1))]) rfl ?_ ?_ | refine ar_region tt_ok (inps := []) rfl ?_ ?_); rotate_left; (try dsimp only [c_szK]); (try refine nrm ?_); rotate_right) | refine ret3 ?_ | refine end3 ?_) | (refine ar_cond rfl trivial ?_ ?_ <;> intro hc_ <;> (try simp only [isNilI, inB, reduceCtorEq, cds] at hc_) <;> (try (first | contradiction | (exfalso; omega)))) | refine ar_until (And.intro ?_ (wk3 ?_)))
    all_goals (first | refine ar_id ?_ | (try (focus ((try refine nrmO ?_); (repeat' (first | exact True.intro | refine And.intro ?_ ?_)); all_goals (try (intro (hg_ : _ = true); (try simp only [isNilI, inB, reduceCtorEq, cds] at hg_); (repeat' (first | exact True.intro | refine And.intro ?_ ?_)))); all_goals (first | exact ob1 | exact fn_szK _ _ _ hm_x0 (by omega) (by rw [if_pos hz_x0]) | skip)))))
  by_cases hz_x1 : 1048576 - ((nK x0 : Nat) : Int) - ((nJ x1 : Nat) : Int) < 0
  · skip
    refine fn_intro tt_ok Tryz.func6 rfl Tryz.call6 Tryz.ntmps6 Tryz.results6 rfl rfl rfl rfl ?_
    intro X ρ0 hb_ hgl_
    dsimp only [c_XFinish]
    try refine nrm ?_
    repeat' (refine ar_id ?_; first | refine st1 ?_ | (first | ((first | refine ar_region (id := 2) tt_ok (inps := [.call (c_szK x0 (1048576) (1048576 - ((nK x0 : Nat) : Int)))]) rfl ?_ ?_ | refine ar_region (id := 5) tt_ok (inps := [.call (c_szJ x1 (1048576 - ((nK x0 : Nat) : Int)) (-1))]) rfl ?_ ?_ | refine ar_region tt_ok (inps := []) rfl ?_ ?_); rotate_left; (try dsimp only [c_szJ, c_szK]); (try refine nrm ?_); rotate_right) | refine ret3 ?_ | refine end3 ?_) | (refine ar_cond rfl trivial ?_ ?_ <;> intro hc_ <;> (try simp only [isNilI, inB, reduceCtorEq, cds] at hc_) <;> (try (first | contradiction | (exfalso; omega)))) | refine ar_until (And.intro ?_ (wk3 ?_)))
    all_goals (first | refine ar_id ?_ | (try (focus ((try refine nrmO ?_); (repeat' (first | exact True.intro | refine And.intro ?_ ?_)); all_goals (try (intro (hg_ : _ = true); (try simp only [isNilI, inB, reduceCtorEq, cds] at hg_); (repeat' (first | exact True.intro | refine And.intro ?_ ?_)))); all_goals (first | exact ob1 | exact fn_szK _ _ _ hm_x0 (by omega) (by rw [if_neg hz_x0]) | exact fn_szJ _ _ _ hm_x1 (by omega) (by rw [if_pos hz_x1]) | skip)))))
  by_cases hz_x2 : 1048576 - ((nK x0 : Nat) : Int) - ((nJ x1 : Nat) : Int) - ((x2.length : Nat) : Int) < 0
  · skip
    refine fn_intro tt_ok Tryz.func6 rfl Tryz.call6 Tryz.ntmps6 Tryz.results6 rfl rfl rfl rfl ?_
    intro X ρ0 hb_ hgl_
    dsimp only [c_XFinish]
    try refine nrm ?_
    repeat' (refine ar_id ?_; first | refine st1 ?_ | (first | ((first | refine ar_region (id := 2) tt_ok (inps := [.call (c_szK x0 (1048576) (1048576 - ((nK x0 : Nat) : Int)))]) rfl ?_ ?_ | refine ar_region (id := 5) tt_ok (inps := [.call (c_szJ x1 (1048576 - ((nK x0 : Nat) : Int)) (1048576 - ((nK x0 : Nat) : Int) - ((nJ x1 : Nat) : Int)))]) rfl ?_ ?_ | refine ar_region (id := 8) tt_ok (inps := [.call (c_szWS x2 (1048576 - ((nK x0 : Nat) : Int) - ((nJ x1 : Nat) : Int)) (-1))]) rfl ?_ ?_ | refine ar_region tt_ok (inps := []) rfl ?_ ?_); rotate_left; (try dsimp only [c_szJ, c_szK, c_szWS]); (try refine nrm ?_); rotate_right) | refine ret3 ?_ | refine end3 ?_) | (refine ar_cond rfl trivial ?_ ?_ <;> intro hc_ <;> (try simp only [isNilI, inB, reduceCtorEq, cds] at hc_) <;> (try (first | contradiction | (exfalso; omega)))) | refine ar_until (And.intro ?_ (wk3 ?_)))
    all_goals (first | refine ar_id ?_ | (try (focus ((try refine nrmO ?_); (repeat' (first | exact True.intro | refine And.intro ?_ ?_)); all_goals (try (intro (hg_ : _ = true); (try simp only [isNilI, inB, reduceCtorEq, cds] at hg_); (repeat' (first | exact True.intro | refine And.intro ?_ ?_)))); all_goals (first | exact ob1 | exact fn_szK _ _ _ hm_x0 (by omega) (by rw [if_neg hz_x0]) | exact fn_szJ _ _ _ hm_x1 (by omega) (by rw [if_neg hz_x1]) | exact fn_szWS _ _ _ hm_x2 (by omega) (by rw [if_pos hz_x2]) | skip)))))
  have hs_x0 : smK x0 := K_sm (by omega)
  have hn_x0 := K_cn x0
  have hs_x1 : smJ x1 := J_sm (by omega)
  have hn_x1 := J_cn x1
  have hs_x2 : x2.length ≤ 1048576 := by omega
  obtain ⟨hs_r0, hs_r1, hs_r2, hc_r, hS, hI⟩ := hR (by omega)
  refine fn_intro tt_ok Tryz.func6 rfl Tryz.call6 Tryz.ntmps6 Tryz.results6 rfl rfl rfl rfl ?_
  intro X ρ0 hb_ hgl_
  dsimp only [c_XFinish]
  try refine nrm ?_
  repeat' (refine ar_id ?_; first | refine st1 ?_ | (refine ar_drawS (id := 11) tt_ok (by kernel_rfl) [.call (c_toK x0), .call (c_toJ x1), .call (c_toWS x2), .call (c_SFinish x0 x1 x2 r0 r1 r2)] ?_; refine ed_hide ?_; intro K_ hK_; repeat' (first | ((first | refine ed_call3 ?_ | refine ed_sure3 ?_ | refine ed_cons3 ?_); refine ed_hide ?_; intro K_ hK_; (try dsimp only [c_IFinish, c_SFinish, c_eqJ, c_eqK, c_eqWS, c_heldJ, c_heldK, c_heldWS, c_markJ, c_markK, c_markWS, c_szJ, c_szK, c_szWS, c_toJ, c_toK, c_toWS]); (try refine nrmE ?_)) | (refine ed_nil ?_; (repeat subst hK_); dsimp only; refine Exists.intro _ (And.intro rfl (And.intro (by kernel_rfl) (And.intro ?_ ?_))); rotate_left; (try dsimp only [c_IFinish, c_SFinish, c_eqJ, c_eqK, c_eqWS, c_heldJ, c_heldK, c_heldWS, c_markJ, c_markK, c_markWS, c_szJ, c_szK, c_szWS, c_toJ, c_toK, c_toWS]); (try refine nrm ?_); rotate_right))) | (refine ar_drawS (id := 18) tt_ok (by kernel_rfl) [.call (c_toK x0), .call (c_eqK x0)] ?_; refine ed_hide ?_; intro K_ hK_; repeat' (first | ((first | refine ed_call3 ?_ | refine ed_sure3 ?_ | refine ed_cons3 ?_); refine ed_hide ?_; intro K_ hK_; (try dsimp only [c_IFinish, c_SFinish, c_eqJ, c_eqK, c_eqWS, c_heldJ, c_heldK, c_heldWS, c_markJ, c_markK, c_markWS, c_szJ, c_szK, c_szWS, c_toJ, c_toK, c_toWS]); (try refine nrmE ?_)) | (refine ed_nil ?_; (repeat subst hK_); dsimp only; refine Exists.intro _ (And.intro rfl (And.intro (by kernel_rfl) (And.intro ?_ ?_))); rotate_left; (try dsimp only [c_IFinish, c_SFinish, c_eqJ, c_eqK, c_eqWS, c_heldJ, c_heldK, c_heldWS, c_markJ, c_markK, c_markWS, c_szJ, c_szK, c_szWS, c_toJ, c_toK, c_toWS]); (try refine nrm ?_); rotate_right))) | (refine ar_drawS (id := 20) tt_ok (by kernel_rfl) [.call (c_toJ x1), .call (c_eqJ x1)] ?_; refine ed_hide ?_; intro K_ hK_; repeat' (first | ((first | refine ed_call3 ?_ | refine ed_sure3 ?_ | refine ed_cons3 ?_); refine ed_hide ?_; intro K_ hK_; (try dsimp only [c_IFinish, c_SFinish, c_eqJ, c_eqK, c_eqWS, c_heldJ, c_heldK, c_heldWS, c_markJ, c_markK, c_markWS, c_szJ, c_szK, c_szWS, c_toJ, c_toK, c_toWS]); (try refine nrmE ?_)) | (refine ed_nil ?_; (repeat subst hK_); dsimp only; refine Exists.intro _ (And.intro rfl (And.intro (by kernel_rfl) (And.intro ?_ ?_))); rotate_left; (try dsimp only [c_IFinish, c_SFinish, c_eqJ, c_eqK, c_eqWS, c_heldJ, c_heldK, c_heldWS, c_markJ, c_markK, c_markWS, c_szJ, c_szK, c_szWS, c_toJ, c_toK, c_toWS]); (try refine nrm ?_); rotate_right))) | (refine ar_drawS (id := 46) tt_ok (by kernel_rfl) [.call (c_toK x0), .call (c_toJ x1), .call (c_toWS x2), .call (c_IFinish gl x0 x1 x2 r0 r1 r2)] ?_; refine ed_hide ?_; intro K_ hK_; repeat' (first | ((first | refine ed_call3 ?_ | refine ed_sure3 ?_ | refine ed_cons3 ?_); refine ed_hide ?_; intro K_ hK_; (try dsimp only [c_IFinish, c_SFinish, c_eqJ, c_eqK, c_eqWS, c_heldJ, c_heldK, c_heldWS, c_markJ, c_markK, c_markWS, c_szJ, c_szK, c_szWS, c_toJ, c_toK, c_toWS]); (try refine nrmE ?_)) | (refine ed_nil ?_; (repeat subst hK_); dsimp only; refine Exists.intro _ (And.intro rfl (And.intro (by kernel_rfl) (And.intro ?_ ?_))); rotate_left; (try dsimp only [c_IFinish, c_SFinish, c_eqJ, c_eqK, c_eqWS, c_heldJ, c_heldK, c_heldWS, c_markJ, c_markK, c_markWS, c_szJ, c_szK, c_szWS, c_toJ, c_toK, c_toWS]); (try refine nrm ?_); rotate_right))) | (first | ((first | refine ar_region (id := 2) tt_ok (inps := [.call (c_szK x0 (1048576) (1048576 - ((nK x0 : Nat) : Int)))]) rfl ?_ ?_ | refine ar_region (id := 5) tt_ok (inps := [.call (c_szJ x1 (1048576 - ((nK x0 : Nat) : Int)) (1048576 - ((nK x0 : Nat) : Int) - ((nJ x1 : Nat) : Int)))]) rfl ?_ ?_ | refine ar_region (id := 8) tt_ok (inps := [.call (c_szWS x2 (1048576 - ((nK x0 : Nat) : Int) - ((nJ x1 : Nat) : Int)) (1048576 - ((nK x0 : Nat) : Int) - ((nJ x1 : Nat) : Int) - ((x2.length : Nat) : Int)))]) rfl ?_ ?_ | refine ar_region (id := 12) tt_ok (inps := [.call (c_toK x0)]) rfl ?_ ?_ | refine ar_region (id := 13) tt_ok (inps := [.call (c_toJ x1)]) rfl ?_ ?_ | refine ar_region (id := 14) tt_ok (inps := [.call (c_toWS x2)]) rfl ?_ ?_ | refine ar_region (id := 15) tt_ok (inps := [.call (c_IFinish gl x0 x1 x2 r0 r1 r2)]) rfl ?_ ?_ | refine ar_region (id := 16) tt_ok (inps := [.call (c_eqK r0), .call (c_eqJ r1), .call (c_eqWS r2)]) rfl ?_ ?_ | refine ar_region (id := 22) tt_ok (inps := [.call (c_toWS x2), .call (c_eqWS x2)]) rfl ?_ ?_ | refine ar_region (id := 25) tt_ok (inps := [.call (c_markK x0 (1))]) rfl ?_ ?_ | refine ar_region (id := 26) tt_ok (inps := [.call (c_markJ x1 (1 + cK x0))]) rfl ?_ ?_ | refine ar_region (id := 27) tt_ok (inps := [.call (c_markWS x2 (1 + cK x0 + cJ x1))]) rfl ?_ ?_ | refine ar_region (id := 28) tt_ok (inps := [.call (c_eqK r0), .call (c_eqJ r1), .call (c_eqWS r2)]) rfl ?_ ?_ | refine ar_region (id := 31) tt_ok (inps := [.call (c_markK r0 (1))]) rfl ?_ ?_ | refine ar_region (id := 32) tt_ok (inps := [.call (c_markJ r1 (1 + cK r0))]) rfl ?_ ?_ | refine ar_region (id := 33) tt_ok (inps := [.call (c_markWS r2 (1 + cK r0 + cJ r1))]) rfl ?_ ?_ | refine ar_region (id := 35) tt_ok (inps := [.call (c_heldK r0 (1))]) rfl ?_ ?_ | refine ar_region (id := 38) tt_ok (inps := [.call (c_heldJ r1 (1 + cK r0))]) rfl ?_ ?_ | refine ar_region (id := 41) tt_ok (inps := [.call (c_heldWS r2.length (1 + cK r0 + cJ r1))]) rfl ?_ ?_ | refine ar_region (id := 47) tt_ok (inps := [.call (c_eqK r0), .call (c_eqJ r1), .call (c_eqWS r2)]) rfl ?_ ?_ | refine ar_region (id := 50) tt_ok (inps := [.call (c_heldK r0 (1))]) rfl ?_ ?_ | refine ar_region (id := 53) tt_ok (inps := [.call (c_heldJ r1 (1 + cK r0))]) rfl ?_ ?_ | refine ar_region (id := 56) tt_ok (inps := [.call (c_heldWS r2.length (1 + cK r0 + cJ r1))]) rfl ?_ ?_ | refine ar_region tt_ok (inps := []) rfl ?_ ?_); rotate_left; (try dsimp only [c_IFinish, c_SFinish, c_eqJ, c_eqK, c_eqWS, c_heldJ, c_heldK, c_heldWS, c_markJ, c_markK, c_markWS, c_szJ, c_szK, c_szWS, c_toJ, c_toK, c_toWS]); (try refine nrm ?_); rotate_right) | refine ret3 ?_ | refine end3 ?_) | (refine ar_cond rfl trivial ?_ ?_ <;> intro hc_ <;> (try simp only [isNilI, inB, reduceCtorEq, cds] at hc_) <;> (try (first | contradiction | (exfalso; omega)))) | refine ar_until (And.intro ?_ (wk3 ?_)))
  all_goals (first | refine ar_id ?_ | (try (focus ((try refine nrmO ?_); (repeat' (first | exact True.intro | refine And.intro ?_ ?_)); all_goals (try (intro (hg_ : _ = true); (try simp only [isNilI, inB, reduceCtorEq, cds] at hg_); (repeat' (first | exact True.intro | refine And.intro ?_ ?_)))); all_goals (first | exact ob1 | exact fn_szK _ _ _ hm_x0 (by omega) (by rw [if_neg hz_x0]) | exact fn_szJ _ _ _ hm_x1 (by omega) (by rw [if_neg hz_x1]) | exact fn_szWS _ _ _ hm_x2 (by omega) (by rw [if_neg hz_x2]) | exact hS | exact hI | exact fn_toK _ hs_x0 | exact fn_toJ _ hs_x1 | exact fn_toWS _ hs_x2 | exact fn_eqK _ hs_x0 | exact fn_eqJ _ hs_x1 | exact fn_eqWS _ hs_x2 | exact fn_eqK _ hs_r0 | exact fn_eqJ _ hs_r1 | exact fn_eqWS _ hs_r2 | exact fn_markK _ _ hs_x0 (by omega) | exact fn_markJ _ _ hs_x1 (by omega) | exact fn_markWS _ _ hs_x2 (by omega) | exact fn_markK _ _ hs_r0 (by omega) | exact fn_markJ _ _ hs_r1 (by omega) | exact fn_markWS _ _ hs_r2 (by omega) | exact fn_heldK _ _ hs_r0 (by omega) | exact fn_heldJ _ _ hs_r1 (by omega) | exact fn_heldWS _ _ (by omega) (by omega) | exact hgl_.1 | exact hgl_.2.1 | exact hgl_.2.2.1 | exact hgl_.2.2.2.1 | exact hgl_.2.2.2.2.1 | exact hgl_.2.2.2.2.2.1 | exact hgl_.2.2.2.2.2.2.1 | exact hgl_.2.2.2.2.2.2.2.1 | exact hgl_ | exact rfl | exact one1 rfl | skip)))))
  all_goals (exfalso; (try simp only [or_false, false_or, not_true_eq_false] at hc_); omega)
end Eng
end Go.Proofs.YtabnglcabpijfaaGreatDoor
namespace Go.Proofs.YtabnglcabpijfaaGreatDoor
open Go.RowKit
set_option linter.unusedVariables false
set_option linter.unusedSimpArgs false
set_option maxRecDepth 100000
namespace Eng
open Tr
def c_CloneB (l : List Bool) : CFD := ⟨161, [.one (ro 4 1 Tr.eB l)], [], .sv (.one (.hd 0)), [(0, some (.row 4 1 (l.map Tr.eB)))], [0], []⟩
theorem fn_CloneB (l : List Bool) (hl : l.length ≤ 1048576) : Fn Tryz.prog (c_CloneB l) := by
  refine fn_intro tt_ok Tryz.func161 rfl Tryz.call161 Tryz.ntmps161 Tryz.results161 rfl rfl rfl rfl ?_
  intro X ρ0 hb_ hgl_
  dsimp only [c_CloneB]
  try refine nrm ?_
  repeat' (refine ar_id ?_; first | refine st1 ?_ | (first | ((first | refine ar_region tt_ok (inps := []) rfl ?_ ?_); rotate_left; (try refine nrm ?_); rotate_right) | refine ret3 ?_ | refine end3 ?_) | (refine ar_cond rfl trivial ?_ ?_ <;> intro hc_ <;> (try simp only [isNilI, inB, reduceCtorEq, cds] at hc_) <;> (try (first | contradiction | (exfalso; omega)))) | refine ar_until (And.intro ?_ (wk3 ?_)))
  all_goals (first | refine ar_id ?_ | (try (focus ((try refine nrmO ?_); (repeat' (first | exact True.intro | refine And.intro ?_ ?_)); all_goals (try (intro (hg_ : _ = true); (try simp only [isNilI, inB, reduceCtorEq, cds] at hg_); (repeat' (first | exact True.intro | refine And.intro ?_ ?_)))); all_goals (first | exact ob1 | skip)))))
  refine ar_split (s := 0) rfl ?_ ?_
  · intro hn hc
    repeat' (refine ar_id ?_; first | refine st1 ?_ | (first | ((first | refine ar_region tt_ok (inps := []) rfl ?_ ?_); rotate_left; (try refine nrm ?_); rotate_right) | refine ret3 ?_ | refine end3 ?_) | (refine ar_cond rfl trivial ?_ ?_ <;> intro hc_ <;> (try simp only [isNilI, inB, reduceCtorEq, cds] at hc_) <;> (try (first | contradiction | (exfalso; omega)))) | refine ar_until (And.intro ?_ (wk3 ?_)))
    all_goals (first | refine ar_id ?_ | (try (focus ((try refine nrmO ?_); (repeat' (first | exact True.intro | refine And.intro ?_ ?_)); all_goals (try (intro (hg_ : _ = true); (try simp only [isNilI, inB, reduceCtorEq, cds] at hg_); (repeat' (first | exact True.intro | refine And.intro ?_ ?_)))); all_goals (first | exact ob1 | skip)))))
    refine ar_nil (s := 2) (T := 4) (q := 1) (r := 90000) rfl rfl ?_
    repeat' (refine ar_id ?_; first | refine st1 ?_ | (first | ((first | refine ar_region tt_ok (inps := []) rfl ?_ ?_); rotate_left; (try refine nrm ?_); rotate_right) | refine ret3 ?_ | refine end3 ?_) | (refine ar_cond rfl trivial ?_ ?_ <;> intro hc_ <;> (try simp only [isNilI, inB, reduceCtorEq, cds] at hc_) <;> (try (first | contradiction | (exfalso; omega)))) | refine ar_until (And.intro ?_ (wk3 ?_)))
    all_goals (first | refine ar_id ?_ | (try (focus ((try refine nrmO ?_); (repeat' (first | exact True.intro | refine And.intro ?_ ?_)); all_goals (try (intro (hg_ : _ = true); (try simp only [isNilI, inB, reduceCtorEq, cds] at hg_); (repeat' (first | exact True.intro | refine And.intro ?_ ?_)))); all_goals (first | exact ob1 | skip)))))
    rw [List.length_eq_zero_iff.1 hn]; rfl
  · intro ad cap hr
    repeat' (refine ar_id ?_; first | refine st1 ?_ | (first | ((first | refine ar_region tt_ok (inps := []) rfl ?_ ?_); rotate_left; (try refine nrm ?_); rotate_right) | refine ret3 ?_ | refine end3 ?_) | (refine ar_cond rfl trivial ?_ ?_ <;> intro hc_ <;> (try simp only [isNilI, inB, reduceCtorEq, cds] at hc_) <;> (try (first | contradiction | (exfalso; omega)))) | refine ar_until (And.intro ?_ (wk3 ?_)))
    all_goals (first | refine ar_id ?_ | (try (focus ((try refine nrmO ?_); (repeat' (first | exact True.intro | refine And.intro ?_ ?_)); all_goals (try (intro (hg_ : _ = true); (try simp only [isNilI, inB, reduceCtorEq, cds] at hg_); (repeat' (first | exact True.intro | refine And.intro ?_ ?_)))); all_goals (first | exact ob1 | skip)))))
    refine ar_read (s := 0) hr rfl ?_
    repeat' (refine ar_id ?_; first | refine st1 ?_ | (first | ((first | refine ar_region (id := 3) tt_ok (inps := [.elems (l.map Tr.eB)]) rfl ?_ ?_ | refine ar_region tt_ok (inps := []) rfl ?_ ?_); rotate_left; (try refine nrm ?_); rotate_right) | refine ret3 ?_ | refine end3 ?_) | (refine ar_cond rfl trivial ?_ ?_ <;> intro hc_ <;> (try simp only [isNilI, inB, reduceCtorEq, cds] at hc_) <;> (try (first | contradiction | (exfalso; omega)))) | refine ar_until (And.intro ?_ (wk3 ?_)))
    all_goals (first | refine ar_id ?_ | (try (focus ((try refine nrmO ?_); (repeat' (first | exact True.intro | refine And.intro ?_ ?_)); all_goals (try (intro (hg_ : _ = true); (try simp only [isNilI, inB, reduceCtorEq, cds] at hg_); (repeat' (first | exact True.intro | refine And.intro ?_ ?_)))); all_goals (first | exact ob1 | exact flat_map' l (fun x => ⟨rfl, rfl, trivial⟩) | exact (by simp only [lns]; omega) | exact (by simp) | skip)))))
def c_CloneI (l : List Int) : CFD := ⟨86, [.one (ro 3 1 Tr.eI l)], [], .sv (.one (.hd 0)), [(0, some (.row 3 1 (l.map Tr.eI)))], [0], []⟩
theorem fn_CloneI (l : List Int) (hl : l.length ≤ 1048576) : Fn Tryz.prog (c_CloneI l) := by
  refine fn_intro tt_ok Tryz.func86 rfl Tryz.call86 Tryz.ntmps86 Tryz.results86 rfl rfl rfl rfl ?_
  intro X ρ0 hb_ hgl_
  dsimp only [c_CloneI]
  try refine nrm ?_
  repeat' (refine ar_id ?_; first | refine st1 ?_ | (first | ((first | refine ar_region tt_ok (inps := []) rfl ?_ ?_); rotate_left; (try refine nrm ?_); rotate_right) | refine ret3 ?_ | refine end3 ?_) | (refine ar_cond rfl trivial ?_ ?_ <;> intro hc_ <;> (try simp only [isNilI, inB, reduceCtorEq, cds] at hc_) <;> (try (first | contradiction | (exfalso; omega)))) | refine ar_until (And.intro ?_ (wk3 ?_)))
  all_goals (first | refine ar_id ?_ | (try (focus ((try refine nrmO ?_); (repeat' (first | exact True.intro | refine And.intro ?_ ?_)); all_goals (try (intro (hg_ : _ = true); (try simp only [isNilI, inB, reduceCtorEq, cds] at hg_); (repeat' (first | exact True.intro | refine And.intro ?_ ?_)))); all_goals (first | exact ob1 | skip)))))
  refine ar_split (s := 0) rfl ?_ ?_
  · intro hn hc
    repeat' (refine ar_id ?_; first | refine st1 ?_ | (first | ((first | refine ar_region tt_ok (inps := []) rfl ?_ ?_); rotate_left; (try refine nrm ?_); rotate_right) | refine ret3 ?_ | refine end3 ?_) | (refine ar_cond rfl trivial ?_ ?_ <;> intro hc_ <;> (try simp only [isNilI, inB, reduceCtorEq, cds] at hc_) <;> (try (first | contradiction | (exfalso; omega)))) | refine ar_until (And.intro ?_ (wk3 ?_)))
    all_goals (first | refine ar_id ?_ | (try (focus ((try refine nrmO ?_); (repeat' (first | exact True.intro | refine And.intro ?_ ?_)); all_goals (try (intro (hg_ : _ = true); (try simp only [isNilI, inB, reduceCtorEq, cds] at hg_); (repeat' (first | exact True.intro | refine And.intro ?_ ?_)))); all_goals (first | exact ob1 | skip)))))
    refine ar_nil (s := 2) (T := 3) (q := 1) (r := 90000) rfl rfl ?_
    repeat' (refine ar_id ?_; first | refine st1 ?_ | (first | ((first | refine ar_region tt_ok (inps := []) rfl ?_ ?_); rotate_left; (try refine nrm ?_); rotate_right) | refine ret3 ?_ | refine end3 ?_) | (refine ar_cond rfl trivial ?_ ?_ <;> intro hc_ <;> (try simp only [isNilI, inB, reduceCtorEq, cds] at hc_) <;> (try (first | contradiction | (exfalso; omega)))) | refine ar_until (And.intro ?_ (wk3 ?_)))
    all_goals (first | refine ar_id ?_ | (try (focus ((try refine nrmO ?_); (repeat' (first | exact True.intro | refine And.intro ?_ ?_)); all_goals (try (intro (hg_ : _ = true); (try simp only [isNilI, inB, reduceCtorEq, cds] at hg_); (repeat' (first | exact True.intro | refine And.intro ?_ ?_)))); all_goals (first | exact ob1 | skip)))))
    rw [List.length_eq_zero_iff.1 hn]; rfl
  · intro ad cap hr
    repeat' (refine ar_id ?_; first | refine st1 ?_ | (first | ((first | refine ar_region tt_ok (inps := []) rfl ?_ ?_); rotate_left; (try refine nrm ?_); rotate_right) | refine ret3 ?_ | refine end3 ?_) | (refine ar_cond rfl trivial ?_ ?_ <;> intro hc_ <;> (try simp only [isNilI, inB, reduceCtorEq, cds] at hc_) <;> (try (first | contradiction | (exfalso; omega)))) | refine ar_until (And.intro ?_ (wk3 ?_)))
    all_goals (first | refine ar_id ?_ | (try (focus ((try refine nrmO ?_); (repeat' (first | exact True.intro | refine And.intro ?_ ?_)); all_goals (try (intro (hg_ : _ = true); (try simp only [isNilI, inB, reduceCtorEq, cds] at hg_); (repeat' (first | exact True.intro | refine And.intro ?_ ?_)))); all_goals (first | exact ob1 | skip)))))
    refine ar_read (s := 0) hr rfl ?_
    repeat' (refine ar_id ?_; first | refine st1 ?_ | (first | ((first | refine ar_region (id := 3) tt_ok (inps := [.elems (l.map Tr.eI)]) rfl ?_ ?_ | refine ar_region tt_ok (inps := []) rfl ?_ ?_); rotate_left; (try refine nrm ?_); rotate_right) | refine ret3 ?_ | refine end3 ?_) | (refine ar_cond rfl trivial ?_ ?_ <;> intro hc_ <;> (try simp only [isNilI, inB, reduceCtorEq, cds] at hc_) <;> (try (first | contradiction | (exfalso; omega)))) | refine ar_until (And.intro ?_ (wk3 ?_)))
    all_goals (first | refine ar_id ?_ | (try (focus ((try refine nrmO ?_); (repeat' (first | exact True.intro | refine And.intro ?_ ?_)); all_goals (try (intro (hg_ : _ = true); (try simp only [isNilI, inB, reduceCtorEq, cds] at hg_); (repeat' (first | exact True.intro | refine And.intro ?_ ?_)))); all_goals (first | exact ob1 | exact flat_map' l (fun x => ⟨rfl, rfl, trivial⟩) | exact (by simp only [lns]; omega) | exact (by simp) | skip)))))
def c_CloneE (l : List GEntry) : CFD := ⟨125, [.one (ro 42 2 eEntry l)], [], .sv (.one (.hd 0)), [(0, some (.row 42 2 (l.map eEntry)))], [0], []⟩
theorem fn_CloneE (l : List GEntry) (hl : l.length ≤ 1048576) : Fn Tryz.prog (c_CloneE l) := by
  refine fn_intro tt_ok Tryz.func125 rfl Tryz.call125 Tryz.ntmps125 Tryz.results125 rfl rfl rfl rfl ?_
  intro X ρ0 hb_ hgl_
  dsimp only [c_CloneE]
  try refine nrm ?_
  repeat' (refine ar_id ?_; first | refine st1 ?_ | (first | ((first | refine ar_region tt_ok (inps := []) rfl ?_ ?_); rotate_left; (try refine nrm ?_); rotate_right) | refine ret3 ?_ | refine end3 ?_) | (refine ar_cond rfl trivial ?_ ?_ <;> intro hc_ <;> (try simp only [isNilI, inB, reduceCtorEq, cds] at hc_) <;> (try (first | contradiction | (exfalso; omega)))) | refine ar_until (And.intro ?_ (wk3 ?_)))
  all_goals (first | refine ar_id ?_ | (try (focus ((try refine nrmO ?_); (repeat' (first | exact True.intro | refine And.intro ?_ ?_)); all_goals (try (intro (hg_ : _ = true); (try simp only [isNilI, inB, reduceCtorEq, cds] at hg_); (repeat' (first | exact True.intro | refine And.intro ?_ ?_)))); all_goals (first | exact ob1 | skip)))))
  refine ar_split (s := 0) rfl ?_ ?_
  · intro hn hc
    repeat' (refine ar_id ?_; first | refine st1 ?_ | (first | ((first | refine ar_region tt_ok (inps := []) rfl ?_ ?_); rotate_left; (try refine nrm ?_); rotate_right) | refine ret3 ?_ | refine end3 ?_) | (refine ar_cond rfl trivial ?_ ?_ <;> intro hc_ <;> (try simp only [isNilI, inB, reduceCtorEq, cds] at hc_) <;> (try (first | contradiction | (exfalso; omega)))) | refine ar_until (And.intro ?_ (wk3 ?_)))
    all_goals (first | refine ar_id ?_ | (try (focus ((try refine nrmO ?_); (repeat' (first | exact True.intro | refine And.intro ?_ ?_)); all_goals (try (intro (hg_ : _ = true); (try simp only [isNilI, inB, reduceCtorEq, cds] at hg_); (repeat' (first | exact True.intro | refine And.intro ?_ ?_)))); all_goals (first | exact ob1 | skip)))))
    refine ar_nil (s := 2) (T := 42) (q := 2) (r := 90000) rfl rfl ?_
    repeat' (refine ar_id ?_; first | refine st1 ?_ | (first | ((first | refine ar_region tt_ok (inps := []) rfl ?_ ?_); rotate_left; (try refine nrm ?_); rotate_right) | refine ret3 ?_ | refine end3 ?_) | (refine ar_cond rfl trivial ?_ ?_ <;> intro hc_ <;> (try simp only [isNilI, inB, reduceCtorEq, cds] at hc_) <;> (try (first | contradiction | (exfalso; omega)))) | refine ar_until (And.intro ?_ (wk3 ?_)))
    all_goals (first | refine ar_id ?_ | (try (focus ((try refine nrmO ?_); (repeat' (first | exact True.intro | refine And.intro ?_ ?_)); all_goals (try (intro (hg_ : _ = true); (try simp only [isNilI, inB, reduceCtorEq, cds] at hg_); (repeat' (first | exact True.intro | refine And.intro ?_ ?_)))); all_goals (first | exact ob1 | skip)))))
    rw [List.length_eq_zero_iff.1 hn]; rfl
  · intro ad cap hr
    repeat' (refine ar_id ?_; first | refine st1 ?_ | (first | ((first | refine ar_region tt_ok (inps := []) rfl ?_ ?_); rotate_left; (try refine nrm ?_); rotate_right) | refine ret3 ?_ | refine end3 ?_) | (refine ar_cond rfl trivial ?_ ?_ <;> intro hc_ <;> (try simp only [isNilI, inB, reduceCtorEq, cds] at hc_) <;> (try (first | contradiction | (exfalso; omega)))) | refine ar_until (And.intro ?_ (wk3 ?_)))
    all_goals (first | refine ar_id ?_ | (try (focus ((try refine nrmO ?_); (repeat' (first | exact True.intro | refine And.intro ?_ ?_)); all_goals (try (intro (hg_ : _ = true); (try simp only [isNilI, inB, reduceCtorEq, cds] at hg_); (repeat' (first | exact True.intro | refine And.intro ?_ ?_)))); all_goals (first | exact ob1 | skip)))))
    refine ar_read (s := 0) hr rfl ?_
    repeat' (refine ar_id ?_; first | refine st1 ?_ | (first | ((first | refine ar_region (id := 3) tt_ok (inps := [.elems (l.map eEntry)]) rfl ?_ ?_ | refine ar_region tt_ok (inps := []) rfl ?_ ?_); rotate_left; (try refine nrm ?_); rotate_right) | refine ret3 ?_ | refine end3 ?_) | (refine ar_cond rfl trivial ?_ ?_ <;> intro hc_ <;> (try simp only [isNilI, inB, reduceCtorEq, cds] at hc_) <;> (try (first | contradiction | (exfalso; omega)))) | refine ar_until (And.intro ?_ (wk3 ?_)))
    all_goals (first | refine ar_id ?_ | (try (focus ((try refine nrmO ?_); (repeat' (first | exact True.intro | refine And.intro ?_ ?_)); all_goals (try (intro (hg_ : _ = true); (try simp only [isNilI, inB, reduceCtorEq, cds] at hg_); (repeat' (first | exact True.intro | refine And.intro ?_ ?_)))); all_goals (first | exact ob1 | exact flat_map' l (fun x => ⟨rfl, rfl, rfl, trivial⟩) | exact (by simp only [lns]; omega) | exact (by simp) | skip)))))
end Eng
end Go.Proofs.YtabnglcabpijfaaGreatDoor

/- Lemmas for the proofs, part 3 of 7: a symbolic run of the program, and what it needs. -/
import Derived.Deep.LoopGhost
import Derived.Scope
import Derived.Test.YtfiofmaknndpcaaGreatDoorRows
import Derived.KernelRfl
import Derived.WalkKit
import Derived.Test.YtfiofmaknndpcaaGreatDoorProg
import Derived.Test.YtfiofmaknndpcaaGreatDoorV2
set_option linter.unusedVariables false
set_option linter.unusedSimpArgs false
set_option maxRecDepth 100000
namespace Go.Proofs.YtfiofmaknndpcaaGreatDoor
open Go.RowKit
namespace Eng
open Tr
section
variable {P : Program} {X : Cx} {ρ : Env} {w : World} {m : ML} {tt : TT} {t : TL} {n : Nat} {a : Act} {g : Option Bool}
def Does (P : Program) (X : Cx) (ρ : Env) (w : World) (m : ML) (al : List Nat) (o : Oper) (a : Act) (v : Option TV) (wr : ML) : Prop :=
 ∀ (K : Act -> World -> Prop), (∀ x w' ρ', (∀ tv, v = some tv -> TRel X ρ' tv x) -> Ext ρ ρ' -> (∀ r y, ρ' r = some y -> ρ r = some y ∨ r ∈ al) -> MRel X ρ' w' (app wr m) -> WRel X w' -> K (a.put o.dst x) w') -> Co.OpK P X.H X.Pt o a w K
theorem qvc {al : List Nat} {o : Oper} {v : Option TV} {wr : ML} (hW : WRel X w) (h : ∀ w₁, Co.Aside X.H w w₁ -> Runs P X ρ w₁ m al (execOp a.eval o) v wr /\ ∃ Bk : Nat -> Prop, Co.Tame P Bk (execOp a.eval o) /\ ∀ b, Bk b -> ¬ X.G b /\ ∃ c T f, w₁.heap[b]? = some (.cells c T f)) : Does P X ρ w m al o a v wr := by
 intro K hK
 refine Co.q7p fun w₁ h₁ => ?_
 obtain ⟨⟨nx, w', ρ', hr, hv, h1, h2, h3, h4⟩, Bk, ht, hB⟩ := h w₁ h₁
 refine ⟨nx, w', hr, Co.qwt ht (fun b hb => ⟨fun hp => (hB b hb).1 (X.hPG b hp), (hB b hb).2⟩) (fun k hk => by rw [h₁.size]; exact hW.lt k (X.hPG k hk)) hr, ?_⟩
 cases v with
 | none =>
  cases nx <;> first | exact hv.elim | skip
  exact hK undef w' ρ' (fun _ h => by cases h) h1 h2 h3 h4
 | some tv =>
  cases nx <;> first | exact hv.elim | skip
  rename_i x
  exact hK x w' ρ' (fun tv' h => by cases h; exact hv) h1 h2 h3 h4
theorem qk0 {w0 : World} : ∀ {l : List CV} {d : D} {vs : List Value}, X.w0 = w0 -> roD l = some d -> qaj X ρ l vs -> RdO w0 X.F d vs
 | [], d, [], _, h, _ => by simp [roD] at h; subst h; exact rfl
 | [], _, _ :: _, _, _, h => h.elim
 | .lit v :: l, d, x :: vs, e, h, hc => by
  unfold roD at h
  split at h
  ·rename_i d' hd
   obtain rfl := Option.some.inj h
   obtain ⟨⟨rfl, _⟩, hc⟩ := hc
   exact ⟨vs, rfl, qk0 e hd hc⟩
  ·cases h
 | .ro T k n c :: l, d, x :: vs, e, h, hc => by
  unfold roD at h
  split at h
  ·rename_i d' hd
   obtain rfl := Option.some.inj h
   obtain ⟨h1, hc⟩ := hc
   have h1' : RdO X.w0 X.F (.row T k n c .nil) [x] := h1
   rw [e] at h1'
   obtain ⟨v', vs', e1, _, h2⟩ := h1'
   obtain ⟨rfl, _⟩ := List.cons.inj e1
   exact ⟨x, vs, rfl, qk0 e hd hc, h2⟩
  ·cases h
 | .hd .. :: _, _, _ :: _, _, h, _ => by simp [roD] at h
 | .box .. :: _, _, _ :: _, _, h, _ => by simp [roD] at h
 | .el .. :: _, _, _ :: _, _, h, _ => by simp [roD] at h
 | .roel .. :: _, _, _ :: _, _, h, _ => by simp [roD] at h
 | .ifro .. :: _, _, _ :: _, _, h, _ => by simp [roD] at h
 | .fn .. :: _, _, _ :: _, _, h, _ => by simp [roD] at h
 | .part .. :: _, _, _ :: _, _, h, _ => by simp [roD] at h
 | _ :: _, _, [], _, _, h => h.elim
theorem qk1 : ∀ {d : D} {vs : List Value}, RdO X.w0 X.F d vs -> (∀ v ∈ vs, v.oneCell' = true) -> qaj X ρ (roC d) vs
 | .nil, _, h, _ => by obtain rfl : _ = [] := h; trivial
 | .lit v d, _, ⟨vs, e, h⟩, ho => by
  subst e
  exact ⟨⟨rfl, ho v (by simp)⟩, qk1 h (fun x hx => ho x (by simp [hx]))⟩
 | .row T k n c d, _, ⟨x, vs, e, h, h2⟩, ho => by
  subst e
  exact ⟨⟨x, [], rfl, rfl, h2⟩, qk1 h (fun y hy => ho y (by simp [hy]))⟩
theorem qw4 (htt : TTok P tt) {o : Oper} {T : Nat} {x : Operand} (ho : o.op = .makeInterface T x) {e : Eff} (he : qyt tt t g T x = some e) (hob : All e.ob) (hg : GT g) (hA : ARel X ρ n t a) (hM : MRel X ρ w m) (hW : WRel X w) :
  Runs P X ρ w m e.al (execOp a.eval o) e.v e.wr := by
 unfold qyt at he
 split at he
 ·cases he
 ·rename_i i hT
  have hu : (underlying T).run P w = .ok i.desc w := run_underlying (htt T i hT).und w
  have key : ∀ y, (match i.desc with | .interface _ => False | _ => True) -> (Instr.makeInterface T y).run P w = .ok (.iface T y) w := by
   intro y h
   cases hd : i.desc <;> rw [hd] at hu h <;> first | exact h.elim | simp [Instr.makeInterface, hu]
  split at he
  ·cases he
  ·rename_i hni
   have hni' : (match i.desc with | .interface _ => False | _ => True) := by
    cases hd : i.desc <;> first | trivial | exact absurd hd (hni _)
   split at he
   ·rename_i l o1 hx
    split at he
    ·rename_i d hd
     simp [qa4] at he
     subst he
     rw [qy] at hob
     obtain ⟨vs, ev, hvs⟩ := qw hx hob.1 hg hA
     exact Runs.pure (x := .iface T (.agg vs)) (by simp [execOp, ho, ev, key _ hni']) (qcn hg ⟨vs, rfl, qk0 rfl hd hvs, qaj.one hvs⟩) hM hW
    ·cases he
   ·rename_i v o1 hx
    refine jl he hob hg hM hW (x := .iface T v) fun h1 h2 => ?_
    obtain ⟨ev, _⟩ := qw hx h1 hg hA
    exact ⟨by simp [execOp, ho, ev, key _ hni'], rfl, rfl⟩
   ·cases he
theorem qjv (hg : GT g) (hA : ARel X ρ n t a) : ∀ {l : List Operand} {cs : List (Option (Nat × Nat))} {o : List Prop}, qm5 t g l = some (cs, o) -> All o -> qct ρ cs (l.map a.eval)
 | [], cs, o, h, _ => by simp [qm5] at h; obtain ⟨rfl, rfl⟩ := h; trivial
 | x :: l, cs, o, h, ho => by
  unfold qm5 at h
  split at h
  ·rename_i v o1 cs' o2 h1 h2
   split at h
   ·rename_i c hc
    simp at h
    obtain ⟨rfl, rfl⟩ := h
    rw [qy] at ho
    have hx := qw h1 ho.1 hg hA
    have hl := qjv hg hA h2 ho.2
    unfold capOf at hc
    split at hc
    ·obtain rfl := Option.some.inj hc
     exact ⟨hx, hl⟩
    ·obtain rfl := Option.some.inj hc
     exact ⟨hx.1, hl⟩
    ·cases hc
   ·cases h
  ·cases h
theorem qw5 {o : Oper} {fv : Go.Fn} {first caps : Array Operand} (ho : o.op = .makeFunc fv first caps) {e : Eff} (he : qyv t g fv first.toList caps.toList = some e) (hob : All e.ob) (hg : GT g) (hA : ARel X ρ n t a) (hM : MRel X ρ w m) (hW : WRel X w) :
  Runs P X ρ w m e.al (execOp a.eval o) e.v e.wr := by
 unfold qyv at he
 split at he
 ·rename_i f
  split at he
  ·rename_i hf
   have hf' : first = #[] := by rw [← Array.toList_inj]; exact hf
   subst hf'
   have hrun : ∀ vs : Array Value, vs = caps.map a.eval -> (execOp a.eval o).run P w = .ok (.value (.func (.func f) #[] vs)) w := by
    intro vs hv
    subst hv
    simp [execOp, ho, Instr.makeFunc]
   cases hc : caps.toList with
   | nil =>
    rw [hc] at he
    have hc' : caps = #[] := by rw [← Array.toList_inj]; exact hc
    have he' : qa4 g (.one (.lit (.func (.func f) #[] #[]))) [] [] = some e := he
    exact jl he' hob hg hM hW (x := .func (.func f) #[] #[]) fun _ _ => ⟨hrun _ (by rw [hc']; simp), rfl, rfl⟩
   | cons x l =>
    rw [hc] at he
    simp only [q5s] at he
    split at he
    ·rename_i cs o1 h1
     refine jl he hob hg hM hW (x := .func (.func f) #[] (caps.map a.eval)) fun h2 _ => ⟨hrun _ rfl, _, rfl, ?_⟩
     have := qjv hg hA h1 h2
     rw [← hc] at this
     simpa using this
    ·cases he
  ·cases he
 ·cases he
def qf5 : Op -> Bool
 | .call c => match c.callee with
  | .value _ => true
  | .invoke .. => true
  | _ => false
 | _ => false
theorem q2t (htt : TTok P tt) {ok : Ok} (hgl : ∀ x, ok.gl x -> GlX X x) {o : Oper} {s : Nat} {inp : Inp} {e : Eff} (he : qbn tt ok t m s g inp o.op = some e) (hc : qf5 o.op = false) (hob : All e.ob) (hg : GT g) (hs : ∀ r ∈ e.al, ρ r = none) (hA : ARel X ρ n t a) (hM : MRel X ρ w m) (hW : WRel X w) :
  Runs P X ρ w m e.al (execOp a.eval o) e.v e.wr := by
 have hs' : ∀ {e' : Eff}, e' = e -> s ∈ e'.al -> ρ s = none := fun h1 h2 => hs s (h1 ▸ h2)
 cases hop : o.op <;> rw [hop] at he hc <;> simp only [qbn] at he <;> try (cases he; done)
 case move x => exact qm9 (.inl hop) he hob hg hA hM hW
 case assign x => exact qm9 (.inr hop) he hob hg hA hM hW
 case nilCheck x => exact qww hop he hob hg hA hM hW
 case pick c x y => exact qtg hop he hob hg hA hM hW
 case alloc T =>
  split at he
  ·rename_i i hT
   obtain rfl := Option.some.inj he
   exact qrb htt hT hop (hs s (by simp)) hM hW
  ·cases he
 case box T x =>
  split at he
  ·rename_i v o1 hx
   obtain rfl := Option.some.inj he
   exact qw0 hop hx hob (hs s (by simp)) hA hM hW
  ·cases he
 case build T ps => exact qrf htt hop he hob hg hA hM hW
 case buildSlice T N ps =>
  exact qky htt hop he hob (by
    apply hs
    unfold qe9 at he
    split at he
    ·split at he
     ·split at he
      ·split at he
       ·obtain rfl := Option.some.inj he; simp
       ·split at he
        ·split at he
         ·obtain rfl := Option.some.inj he; simp
         ·cases he
        ·cases he
      ·cases he
     ·cases he
    ·cases he) hg hA hM hW
 case slice T x lo hi mx =>
  split at he
  ·exact qri htt hop he hob hs hg hA hM hW
  ·exact qp4 htt hop he hob hs hg hA hM hW
 case load T x => exact qth htt hgl hop he hob hg hA hM hW
 case store T x y =>
  split at he
  ·exact qrc htt hop he hob hA hM hW
  ·cases he
 case makeSlice T x y =>
  split at he
  ·exact qti htt hop he hob (by
    apply hs
    unfold qpt at he
    split at he
    ·split at he
     ·split at he
      ·obtain rfl := Option.some.inj he; simp
      ·cases he
     ·cases he
    ·cases he) hA hM hW
  ·cases he
 case fieldAddr T x f => exact ql5 htt hop he hob hg hA hM hW
 case field T x f => exact qq9 htt hop he hob hg hA hM hW
 case indexAddr T x y => exact ql6 htt hop he hob hg hA hM hW
 case index T x y => exact qra htt hop he hob hg hA hM hW
 case binOp op T x y T' => exact qwy htt hop he hob hg hA hM hW
 case convert S T x => exact qtf htt hop he hob hg hA hM hW
 case unOp op T x => exact qyx hop he hob hg hA hM hW
 case makeInterface T x => exact qw4 htt hop he hob hg hA hM hW
 case makeFunc fv first caps => exact qw5 hop he hob hg hA hM hW
 case extract x i =>
  split at he
  ·exact qof hop he hob hA hM hW
  ·cases he
 case call c =>
  split at he
  ·rename_i hcal
   split at he
   ·rename_i x T ha hat
    exact qwz htt ⟨c, hop, hcal, ha, hat⟩ he hob hg hA hM hW
   ·cases he
  ·rename_i hcal
   split at he
   ·rename_i x y T T' ha hat
    split at he
    ·rename_i hTT
     have : T = T' := by rw [← Nat.beq_eq]; exact hTT
     subst this
     refine qp5 htt ⟨c, hop, hcal, ha, hat⟩ he hob ?_ hA hM hW
     apply hs
     unfold qhi at he
     split at he
     ·split at he
      ·split at he
       ·split at he
        ·split at he
         ·split at he
          ·split at he
           ·obtain rfl := Option.some.inj he; simp
           ·cases he
          ·cases he
         ·split at he
          ·split at he
           ·obtain rfl := Option.some.inj he; simp
           ·cases he
          ·cases he
         ·split at he
          ·split at he
           ·obtain rfl := Option.some.inj he; simp
           ·cases he
          ·cases he
        ·cases he
       ·cases he
      ·cases he
     ·cases he
    ·refine qtl htt ⟨c, hop, hcal, ha, hat⟩ he hob ?_ hA hM hW
     apply hs
     unfold qm2 at he
     split at he
     ·split at he
      ·split at he
       ·obtain rfl := Option.some.inj he; simp
       ·cases he
      ·cases he
     ·cases he
   ·cases he
  ·rename_i hcal
   split at he
   ·rename_i x T ha hat
    exact qw3 htt ⟨c, hop, hcal, ha, hat⟩ he hob hg hA hM hW
   ·cases he
  ·rename_i hcal
   split at he
   ·rename_i x y T Ts ha hat
    exact qtj htt ⟨c, _, hop, hcal, ha, hat⟩ he hob hA hM hW
   ·cases he
  ·rename_i hcal
   split at he
   ·rename_i x T ha hat
    split at he
    ·exact qp3 htt ⟨c, hop, hcal, ha, hat⟩ he hob hA hM hW
    ·exact qrh htt ⟨c, hop, hcal, ha, hat⟩ he hob hA hM hW
   ·cases he
  ·rename_i hcal
   split at he
   ·rename_i x y ha
    exact qq8 (mn := true) hop hcal ha he hob hg hA hM hW
   ·cases he
  ·rename_i hcal
   split at he
   ·rename_i x y ha
    exact qq8 (mn := false) hop hcal ha he hob hg hA hM hW
   ·cases he
  ·rename_i f hcal
   simp [qf5, hcal] at hc
  ·rename_i f hcal
   simp [qf5, hcal] at hc
  ·rename_i x nm hcal
   simp [qf5, hcal] at hc
  ·cases he
end
end Eng
end Go.Proofs.YtfiofmaknndpcaaGreatDoor
namespace Go.Proofs.YtfiofmaknndpcaaGreatDoor
open Go.RowKit Go.Conc Co
namespace Co
section
variable {P : Program} {Bk : Nat -> Prop}
theorem q8q (x y : Value) : Tame P Bk (Builtin.min2 x y) := by
 unfold Builtin.min2
 repeat' (first | (with_reducible first | exact jk _ | exact qbs _ | exact qda _ | exact qbt _ | exact qga _ _ _ | exact qd1 _ | exact qd2 _ _ _ | exact yw | exact qas _ _ | exact wz _ | exact zl _ | exact zq _ | exact zy _ | exact zo _ | exact tmark | exact yl _ | exact xh _ | exact zh _ | exact xx _ | exact qab _ | exact yh _ _ | exact y8 _ _ | exact ja _ _ | exact zt _ _ | exact jb _ | exact qav _ _ _ | exact yz _ | exact xm _ _ _ _ | exact y9 _ | exact qac _ | exact jc _ | exact qad _ | exact jd _ | exact yt _ | exact zf _ | exact zk _ | exact ji _ | exact zu _ | exact jf _ _ _ | exact xu _ _ | exact yu _ _ | exact xn _ _) | refine tb ?_ (fun _ => ?_) | refine tmap ?_ | split | dsimp only)
theorem q8r (x y : Value) : Tame P Bk (Builtin.max2 x y) := by
 unfold Builtin.max2
 repeat' (first | (with_reducible first | exact jk _ | exact qbs _ | exact qda _ | exact qbt _ | exact qga _ _ _ | exact qd1 _ | exact qd2 _ _ _ | exact yw | exact qas _ _ | exact wz _ | exact zl _ | exact zq _ | exact zy _ | exact zo _ | exact tmark | exact yl _ | exact xh _ | exact zh _ | exact xx _ | exact qab _ | exact yh _ _ | exact y8 _ _ | exact ja _ _ | exact zt _ _ | exact jb _ | exact qav _ _ _ | exact yz _ | exact xm _ _ _ _ | exact y9 _ | exact qac _ | exact jc _ | exact qad _ | exact jd _ | exact yt _ | exact zf _ | exact zk _ | exact ji _ | exact zu _ | exact jf _ _ _ | exact xu _ _ | exact yu _ _ | exact xn _ _) | refine tb ?_ (fun _ => ?_) | refine tmap ?_ | split | dsimp only)
theorem tmin (Ts : Array TypeId) (t : TypeId) (x y : Value) : Tame P Bk (Builtin.min_ Ts t #[x, y]) := by
 unfold Builtin.min_
 exact tb (q8q _ _) fun _ => jk _
theorem tmax (Ts : Array TypeId) (t : TypeId) (x y : Value) : Tame P Bk (Builtin.max_ Ts t #[x, y]) := by
 unfold Builtin.max_
 exact tb (q8r _ _) fun _ => jk _
theorem q7q (a : Option Addr) (Ts : Array TypeId) (t : TypeId) (x : Value) : Tame P Bk (Builtin.copy_ Ts t #[.slice a 0 0, x]) := by
 unfold Builtin.copy_
 split
 ·rename (_, _, _) = _ => hq
  refine tb (xh _) fun _ => ?_
  split
  ·split
   ·simp at hq
    obtain ⟨_, ⟨rfl, rfl, rfl⟩, _⟩ := hq
    refine tb (qd1 _) fun n => tb (zh _) fun s => ?_
    rw [show Nat.min n 0 = 0 from Nat.min_zero n]
    refine quz _ _ _ ?_
    dsimp only
    split
    ·exact tb (jk _) fun _ => jk _
    ·exact jk _
   ·exact qbs _
  ·exact qbs _
 ·exact qbs _
theorem q2u (a : Option Addr) (Ts : Array TypeId) (t : TypeId) : Tame P Bk (Builtin.clear_ Ts t #[.slice a 0 0]) := by
 unfold Builtin.clear_
 repeat' (first | (with_reducible first | exact jk _ | exact qbs _ | exact qda _ | exact qbt _ | exact qga _ _ _ | exact qd1 _ | exact qd2 _ _ _ | exact yw | exact qas _ _ | exact wz _ | exact zl _ | exact zq _ | exact zy _ | exact zo _ | exact tmark | exact yl _ | exact xh _ | exact zh _ | exact xx _ | exact qab _ | exact yh _ _ | exact y8 _ _ | exact ja _ _ | exact zt _ _ | exact jb _ | exact qav _ _ _ | exact yz _ | exact xm _ _ _ _ | exact y9 _ | exact qac _ | exact jc _ | exact qad _ | exact jd _ | exact yt _ | exact zf _ | exact zk _ | exact ji _ | exact zu _ | exact jf _ _ _ | exact xu _ _ | exact yu _ _ | exact xn _ _) | refine tb ?_ (fun _ => ?_) | refine tmap ?_ | split | dsimp only)
 all_goals (rename (_, _) = _ => hq; simp at hq)
 all_goals (exfalso; simp_all; done)
end
end Co
namespace Eng
open Tr
section
variable {P : Program} {X : Cx} {ρ : Env} {w : World} {m : ML} {tt : TT} {t : TL} {n : Nat} {a : Act} {g : Option Bool}
theorem own_base {T k : Nat} {l : List D} {x : Value} {bs : List Nat} (h : Own w (rowC T k l) [x] bs) : ((∃ a, x = .slice a 0 0) /\ l = []) ∨ ∃ g o n cap cur, x = .slice (some ⟨g, o, none⟩) n cap /\ g ∈ bs /\ w.heap[g]? = some (.cells cur T (0, 0)) := by
 obtain ⟨v, vs', b1, b2, e1, e2, _, h⟩ := h
 obtain ⟨rfl, rfl⟩ := List.cons.inj e1
 rcases h with ⟨⟨a, rfl⟩, hl, _⟩ | ⟨g, o, cap, cur, b, rfl, rfl, h1, _⟩
 ·exact .inl ⟨⟨a, rfl⟩, List.length_eq_zero_iff.1 hl⟩
 ·exact .inr ⟨g, o, _, cap, cur, rfl, by rw [e2]; simp, h1⟩
theorem dry {s : Sem Next} (h : ∀ Bk, Tame P Bk s) : ∃ Bk : Nat -> Prop, Tame P Bk s /\ ∀ b, Bk b -> ¬ X.G b /\ ∃ c T f, w.heap[b]? = some (.cells c T f) := ⟨fun _ => False, h _, fun _ h => h.elim⟩
theorem wet {s : Sem Next} (b : Nat) (h : Tame P (· = b) s) (h1 : ¬ X.G b) (h2 : ∃ c T f, w.heap[b]? = some (.cells c T f)) : ∃ Bk : Nat -> Prop, Tame P Bk s /\ ∀ b, Bk b -> ¬ X.G b /\ ∃ c T f, w.heap[b]? = some (.cells c T f) := ⟨(· = b), h, fun _ e => e ▸ ⟨h1, h2⟩⟩
theorem qcc {o : Oper} {c : Call} {b : Builtin} {l : List Operand} (hop : o.op = .call c) (hcal : c.callee = .builtin b) (ha : c.args.toList = l) : ∃ cs, execOp a.eval o = builtin b c.argTypes o.type cs (l.map a.eval).toArray := by
 have h : c.args = l.toArray := by rw [← ha]
 have h2 : c.args.map a.eval = (l.map a.eval).toArray := by rw [h, List.map_toArray]
 have h3 : execOp a.eval o = builtin b c.argTypes o.type (c.args.map fun | .const _ => true | _ => false) (c.args.map a.eval) := by
  simp only [execOp, hop, resolve, hcal, pure_bind, invoke]
  congr 1
 rw [h3, h2]
 exact ⟨_, rfl⟩
theorem q2v (htt : TTok P tt) {ok : Ok} {o : Oper} {s : Nat} {inp : Inp} {e : Eff} (he : qbn tt ok t m s g inp o.op = some e) (hc : qf5 o.op = false) (hob : All e.ob) (hg : GT g) (hA : ARel X ρ n t a) (hM : MRel X ρ w m) :
  ∃ Bk : Nat -> Prop, Tame P Bk (execOp a.eval o) /\ ∀ b, Bk b -> ¬ X.G b /\ ∃ c T f, w.heap[b]? = some (.cells c T f) := by
 have hg0 : GT none := fun _ h => by cases h
 cases hop : o.op <;> rw [hop] at he hc <;> simp only [qbn] at he <;> try (cases he; done)
 case move x => exact dry fun _ => by simp only [execOp, hop]; exact jk _
 case assign x => exact dry fun _ => by simp only [execOp, hop]; exact jk _
 case nilCheck x =>
  unfold qu4 at he
  split at he
  ·rename_i r j o1 hx
   unfold qa4 at he
   obtain rfl := Option.some.inj he
   rw [qy] at hob
   obtain ⟨g0, _, hv⟩ := qw hx hob.1 hg hA
   exact dry fun _ => by simp only [execOp, hop, hv]; exact jk _
  ·cases he
 case pick c x y => exact dry fun _ => by simp only [execOp, hop]; exact tb (jc _) fun _ => jk _
 case alloc T => exact dry fun _ => by simp only [execOp, hop]; exact tb (q7l _ _) fun _ => jk _
 case box T x => exact dry fun _ => by simp only [execOp, hop]; exact tb (tbox _ _) fun _ => jk _
 case build T ps => exact dry fun _ => by simp only [execOp, hop]; exact tb (q7j _ _) fun _ => jk _
 case buildSlice T N ps => exact dry fun _ => by simp only [execOp, hop]; exact tb (qq1 _ _ _) fun _ => jk _
 case slice T x lo hi mx => exact dry fun _ => by simp only [execOp, hop]; exact tb (qyh _ _ _ _ _) fun _ => jk _
 case load T x => exact dry fun _ => by simp only [execOp, hop, Instr.loadAt]; exact tb (tb (yt _) fun _ => y8 _ _) fun _ => jk _
 case store T x y =>
  split at he
  ·unfold ql9 at he
   obtain ⟨B, hB⟩ := hM
   have fin : ∀ b o', a.eval x = .pointer (some ⟨b, o', none⟩) -> Tame P (· = b) (execOp a.eval o) := by
    intro b o' hv
    simp only [execOp, hop, Instr.storeAt, hv, Instr.sureAddr, pure_bind]
    exact tb (qwo (Bk := (· = b)) (a := ⟨b, o', none⟩) rfl _ _) fun _ => jk _
   split at he
   ·split at he
    ·cases he
    ·split at he
     ·rename_i r j o1 hx
      split at he
      ·rename_i T' vs hr
       split at he
       ·obtain rfl := Option.some.inj he
        rw [qy] at hob
        obtain ⟨g0, hρ, hex⟩ := qw hx hob.1 hg0 hA
        obtain ⟨g1, cur, h1, h2, h3, h4⟩ := hB.blk r _ hr
        rw [hρ] at h1
        obtain rfl : g0 = g1 := by simpa using h1
        exact wet g0 (fin _ _ hex) (hB.nf r _ hr g0 (by rw [h3]; simp)) ⟨_, _, _, h2⟩
       ·cases he
      ·cases he
     ·rename_i r k ii j o1 hx
      split at he
      ·rename_i T' k' l d ed u hr hcd
       split at he
       ·obtain rfl := Option.some.inj he
        rw [qy, qy] at hob
        obtain ⟨hox, hoy, hd, hjl, _⟩ := hob
        obtain ⟨g0, o0, n0, cap, hρ, hex⟩ := qw hx hox hg0 hA
        obtain ⟨z, h1, hown, _⟩ := hB.blk r _ hr
        rw [hρ] at h1
        obtain rfl := Option.some.inj h1
        rcases own_base hown with ⟨_, rfl⟩ | ⟨g1, o1', n1, cap1, cur, e1, hgb, hcur⟩
        ·simp at hd
        ·have e2 : g0 = g1 := by simp at e1; exact e1.1.1
         subst e2
         exact wet g0 (fin _ _ hex) (hB.nf r _ hr g0 hgb) ⟨_, _, _, hcur⟩
       ·cases he
      ·cases he
     ·cases he
   ·cases he
  ·cases he
 case makeSlice T x y => exact dry fun _ => by simp only [execOp, hop]; exact tb (qs9 _ _ _) fun _ => jk _
 case fieldAddr T x f => exact dry fun _ => by simp only [execOp, hop]; exact tb (qyf _ _ _) fun _ => jk _
 case field T x f => exact dry fun _ => by simp only [execOp, hop]; exact tb (q7h _ _ _) fun _ => jk _
 case indexAddr T x y => exact dry fun _ => by simp only [execOp, hop]; exact tb (qyg _ _ _) fun _ => jk _
 case index T x y => exact dry fun _ => by simp only [execOp, hop]; exact tb (q7i _ _ _) fun _ => jk _
 case binOp op T x y T' =>
  refine dry fun Bk => ?_
  have fin : Tame P Bk (binOp op T (a.eval x) (a.eval y)) := by
   unfold qma at he
   split at he
   ·rename_i u o1 v o2 hx hy
    split at he
    ·rename_i r ob hb
     have hob' : All o1 /\ All o2 /\ All (gOb g ob) := by
      split at he
      ·cases he
      ·unfold qa4 at he
       obtain rfl := Option.some.inj he
       rw [qy, qy] at hob
       exact ⟨hob.1.1, hob.1.2, hob.2⟩
     obtain ⟨ex, _⟩ := qw hx hob'.1 hg hA
     obtain ⟨ey, _⟩ := qw hy hob'.2.1 hg hA
     rw [ex, ey]
     unfold qtc at hb
     split at hb
     ·split at hb
      ·exact qu1 _ _ _ _ _ _
      ·cases hb
     ·split at hb
      ·split at hb
       ·split at hb
        ·exact qjl _ _ _ (by simp) (by simp) (by simp) (by simp)
        ·exact qpq _ _ _ (by simp) (by simp) (by simp) (by simp)
        ·cases hb
       ·cases hb
      ·cases hb
     ·split at hb
      ·exact q2o _ _ _ _
      ·cases hb
     ·unfold nilB at hb
      split at hb
      ·split at hb
       ·rename_i hn
        exact qjl _ _ _ (by rintro k a rfl; simp_all) (by rintro s rfl; simp_all) (by rintro k a rfl; simp [nilV] at hn) (by rintro k a b rfl; simp [nilV] at hn)
       ·rename_i hn
        exact qpq _ _ _ (by rintro k a rfl; simp_all) (by rintro s rfl; simp_all) (by rintro k a rfl; simp [nilV] at hn) (by rintro k a b rfl; simp [nilV] at hn)
       ·cases hb
      ·cases hb
    ·cases he
   ·rename_i l o1 l' o2 hx hy
    have hy' : ∀ h2 : All o2, ∃ vs, a.eval y = .agg vs := fun h2 => by
     obtain ⟨vs, h, _⟩ := qw hy h2 hg hA
     exact ⟨vs, h⟩
    split at he
    ·split at he
     ·split at he
      ·unfold qa4 at he
       obtain rfl := Option.some.inj he
       rw [qy, qy] at hob
       obtain ⟨vs, hv⟩ := hy' hob.1.2
       rw [hv]
       exact qjl _ _ _ (by simp) (by simp) (by simp) (by simp)
      ·unfold qa4 at he
       obtain rfl := Option.some.inj he
       rw [qy, qy] at hob
       obtain ⟨vs, hv⟩ := hy' hob.1.2
       rw [hv]
       exact qpq _ _ _ (by simp) (by simp) (by simp) (by simp)
      ·cases he
     ·cases he
    ·cases he
   ·cases he
  simp only [execOp, hop]
  exact tb (tb (qq0 _ _ _ _ _ _) fun _ => fin) fun _ => jk _
 case convert S T x =>
  unfold qpz at he
  split at he
  ·rename_i i j k q o1 hS hT hx
   split at he
   ·rename_i hi hj
    unfold qa4 at he
    obtain rfl := Option.some.inj he
    rw [qy] at hob
    obtain ⟨ex, _⟩ := qw hx hob.1 hg hA
    have hu := (htt T _ hT).und
    rw [hj] at hu
    exact dry fun _ => by simp only [execOp, hop, ex]; exact tb (qyk hu _ _) fun _ => jk _
   ·cases he
  ·cases he
 case unOp op _ x => exact dry fun _ => by simp only [execOp, hop]; exact tb (q7e _ _) fun _ => jk _
 case makeInterface T x => exact dry fun _ => by simp only [execOp, hop]; exact tb (q7k _ _) fun _ => jk _
 case makeFunc fv first caps => exact dry fun _ => by simp only [execOp, hop]; exact tb (jk _) fun _ => jk _
 case extract x i => exact dry fun _ => by simp only [execOp, hop]; exact tb (qyi _ _) fun _ => jk _
 case call c =>
  split at he
  ·rename_i hcal
   split at he
   ·rename_i x T ha hat
    obtain ⟨cs, hx⟩ := qcc (a := a) hop hcal ha
    exact dry fun _ => by rw [hx]; exact tb (tlen _ _ _) fun _ => jk _
   ·cases he
  ·rename_i hcal
   split at he
   ·rename_i x y T T' ha hat
    obtain ⟨cs, hx⟩ := qcc (a := a) hop hcal ha
    rw [hx]
    show ∃ Bk : Nat -> Prop, Tame P Bk (builtin .append c.argTypes o.type cs #[a.eval x, a.eval y]) /\ _
    obtain ⟨B, hB⟩ := hM
    have base : ∀ {e' k' : Nat} {v : SV} {r1 : List Nat} {l1 : List D}, rowOf m e' k' v = some (r1, l1) -> SRel X ρ v (a.eval x) -> ∃ Bk : Nat -> Prop, Tame P Bk (builtin .append c.argTypes o.type cs [a.eval x, a.eval y].toArray) /\ ∀ b, Bk b -> ¬ X.G b /\ ∃ c T f, w.heap[b]? = some (.cells c T f) := by
     intro e' k' v r1 l1 hr hv
     obtain ⟨b1, hown, _, _, _, hr1, hb1⟩ := qds hB hr hv
     rcases own_base hown with ⟨⟨a0, h0⟩, _⟩ | ⟨g1, o1', n1, cap1, cur, e1, hgb, hcur⟩
     ·exact dry fun _ => by rw [h0]; exact tb (qq3 _ _ _ _ _) fun _ => jk _
     ·obtain ⟨r, hrr, hgB⟩ := hb1 g1 hgb
      obtain ⟨b, hb⟩ := hr1 r hrr
      exact wet g1 (by rw [e1]; exact tb (qyj (Bk := (· = g1)) (a := ⟨g1, o1', none⟩) rfl _ _ _ _ _) fun _ => jk _) (hB.nf r b hb g1 hgB) ⟨_, _, _, hcur⟩
    split at he
    ·unfold qhi at he
     split at he
     ·rename_i i v o1 u o2 hT hx1 hy1
      have hox : All o1 := by
       split at he
       ·split at he
        ·split at he
         ·split at he
          ·split at he
           ·split at he
            ·obtain rfl := Option.some.inj he; rw [qy] at hob; exact hob.1
            ·cases he
           ·cases he
          ·split at he
           ·split at he
            ·obtain rfl := Option.some.inj he; rw [qy] at hob; exact hob.1
            ·cases he
           ·cases he
          ·split at he
           ·split at he
            ·obtain rfl := Option.some.inj he; rw [qy] at hob; exact hob.1
            ·cases he
           ·cases he
         ·cases he
        ·cases he
       ·cases he
      split at he
      ·split at he
       ·split at he
        ·rename_i hr
         exact base hr (qw hx1 hox hg0 hA)
        ·cases he
       ·cases he
      ·cases he
     ·cases he
    ·unfold qm2 at he
     split at he
     ·rename_i i i' o1 q o2 hT hT' hx1 hy1
      have hox : All o1 := by
       split at he
       ·split at he
        ·obtain rfl := Option.some.inj he; rw [qy] at hob; exact hob.1
        ·cases he
       ·cases he
      obtain ⟨ex, _⟩ := qw hx1 hox hg0 hA
      exact dry fun _ => by rw [ex]; exact tb (qq3 _ _ _ _ _) fun _ => jk _
     ·cases he
   ·cases he
  ·rename_i hcal
   split at he
   ·rename_i x T ha hat
    obtain ⟨cs, hx⟩ := qcc (a := a) hop hcal ha
    exact dry fun _ => by rw [hx]; exact tb (tcap _ _ _) fun _ => jk _
   ·cases he
  ·rename_i hcal
   split at he
   ·rename_i x y T Ts ha hat
    obtain ⟨cs, hx⟩ := qcc (a := a) hop hcal ha
    rw [hx]
    show ∃ Bk : Nat -> Prop, Tame P Bk (builtin .copy c.argTypes o.type cs #[a.eval x, a.eval y]) /\ _
    obtain ⟨B, hB⟩ := hM
    unfold qp0 at he
    split at he
    ·rename_i i r o1 T1 k1 n1 c1 o2 l hT hx1 hy1
     split at he
     ·rename_i e' T' k' l1 hd hr
      split at he
      ·split at he
       ·obtain rfl := Option.some.inj he
        rw [qy] at hob
        obtain ⟨hρ, _⟩ := qw hx1 hob.1 hg0 hA
        obtain ⟨z, h1, hown, _⟩ := hB.blk r _ hr
        rw [hρ] at h1
        obtain h1 := Option.some.inj h1
        rcases own_base hown with ⟨⟨a0, h0⟩, _⟩ | ⟨g1, o1', n1', cap1, cur, e1, hgb, hcur⟩
        ·exact dry fun _ => by rw [h1, h0]; exact tb (q7q _ _ _ _) fun _ => jk _
        ·exact wet g1 (by rw [h1, e1]; exact tb (q7n (Bk := (· = g1)) (a := ⟨g1, o1', none⟩) rfl _ _ _ _ _) fun _ => jk _) (hB.nf r _ hr g1 hgb) ⟨_, _, _, hcur⟩
       ·cases he
      ·cases he
     ·cases he
    ·cases he
   ·cases he
  ·rename_i hcal
   split at he
   ·rename_i x T ha hat
    obtain ⟨cs, hx⟩ := qcc (a := a) hop hcal ha
    rw [hx]
    show ∃ Bk : Nat -> Prop, Tame P Bk (builtin .clear c.argTypes o.type cs #[a.eval x]) /\ _
    obtain ⟨B, hB⟩ := hM
    split at he
    ·unfold qjm at he
     split at he
     ·rename_i i y o1 q zz hT hx1 hp
      split at he
      ·rename_i A' n' c' A ln cp el T'' k' l hd hr
       split at he
       ·split at he
        ·obtain rfl := Option.some.inj he
         rw [qy] at hob
         obtain ⟨hex, _⟩ := qw hx1 hob.1 hg0 hA
         have hA' := hob.2.1
         have hfit := hob.2.2.1
         have hn0 := hob.2.2.2.1
         obtain ⟨_, hpq, _⟩ := hB.blk _ _ hp
         obtain ⟨z, h1, hown, _⟩ := hB.blk q _ hr
         rw [hpq] at h1
         obtain h1 := Option.some.inj h1
         rcases own_base hown with ⟨⟨a0, h0⟩, h2⟩ | ⟨g1, o1', n1', cap1, cur, e1, hgb, hcur⟩
         ·exfalso
          rw [h2] at hfit
          simp at hfit
          omega
         ·rw [← h1] at e1
          cases e1
          simp only [Option.map_some, qe3] at hA'
          rw [hA'] at hex
          exact wet g1 (by rw [hex]; exact tb (qu0 (Bk := (· = g1)) rfl _ _ _ _) fun _ => jk _) (hB.nf q _ hr g1 hgb) ⟨_, _, _, hcur⟩
        ·cases he
       ·cases he
      ·cases he
     ·cases he
    ·unfold qmb at he
     split at he
     ·rename_i i r o1 hT hx1
      split at he
      ·rename_i e' T' k' l1 hd hr
       split at he
       ·split at he
        ·obtain rfl := Option.some.inj he
         rw [qy] at hob
         obtain ⟨hρ, _⟩ := qw hx1 hob.1 hg0 hA
         obtain ⟨z, h1, hown, _⟩ := hB.blk r _ hr
         rw [hρ] at h1
         obtain h1 := Option.some.inj h1
         rcases own_base hown with ⟨⟨a0, h0⟩, _⟩ | ⟨g1, o1', n1', cap1, cur, e1, hgb, hcur⟩
         ·exact dry fun _ => by rw [h1, h0]; exact tb (q2u _ _ _) fun _ => jk _
         ·exact wet g1 (by rw [h1, e1]; exact tb (qu0 (Bk := (· = g1)) (a := ⟨g1, o1', none⟩) rfl _ _ _ _) fun _ => jk _) (hB.nf r _ hr g1 hgb) ⟨_, _, _, hcur⟩
        ·cases he
       ·cases he
      ·cases he
     ·cases he
   ·cases he
  ·rename_i hcal
   split at he
   ·rename_i x y ha
    obtain ⟨cs, hx⟩ := qcc (a := a) hop hcal ha
    exact dry fun _ => by rw [hx]; exact tb (tmin _ _ _ _) fun _ => jk _
   ·cases he
  ·rename_i hcal
   split at he
   ·rename_i x y ha
    obtain ⟨cs, hx⟩ := qcc (a := a) hop hcal ha
    exact dry fun _ => by rw [hx]; exact tb (tmax _ _ _ _) fun _ => jk _
   ·cases he
  ·rename_i f hcal
   simp [qf5, hcal] at hc
  ·rename_i f hcal
   simp [qf5, hcal] at hc
  ·rename_i x nm hcal
   simp [qf5, hcal] at hc
  ·cases he
end
end Eng
end Go.Proofs.YtfiofmaknndpcaaGreatDoor
namespace Go.Proofs.YtfiofmaknndpcaaGreatDoor
open Go.RowKit
namespace Eng
open Tr
def qjw (X : Cx) (ρ : Env) (c : CFD) (e : Ending) (w' : World) : Prop :=
 ∃ v ρ', e = .returned v /\ TRel X ρ' c.res v /\ Ext ρ ρ' /\ (∀ q y, ρ' q = some y -> q ∈ keys c.pre ∨ q ∈ c.nm) /\ MRel X ρ' w' c.post /\ WRel X w'
def FnR (P : Program) (c : CFD) : Prop :=
 ∀ (X : Cx) (ρ : Env) (xs : List Value), X.ds = [] -> qc8 (GlX X) c.gl -> MRel X ρ X.w0 c.pre -> (∀ q y, ρ q = some y -> q ∈ keys c.pre) -> qa9 X ρ c.args xs -> Co.qhg P X.H X.Pt c.f xs.toArray X.w0 (qjw X ρ c)
structure Fn (P : Program) (c : CFD) : Prop where
 fn : FnR P c
 call : ∀ args w, (callFunc c.f args).run P w = .ok (.enter c.f args) w
 ev : ¬ Co.Lone -> ∀ args w, (callFunc c.f args).events P w #[] = #[]
def Mt (P : Program) (T : Nat) (s : String) (f : Nat) : Prop := ∀ v w, (Go.method (P.types.size + Made.depth) T v s).runT P w #[] = (.ok (f, v) w, #[])
theorem Mt.run {P : Program} {T : Nat} {s : String} {f : Nat} (h : Mt P T s f) (v : Value) (w : World) : (Go.method (P.types.size + Made.depth) T v s).run P w = .ok (f, v) w := by
 have := h v w
 rw [Sem.runT_eq] at this
 exact (Prod.mk.inj this).1
theorem Mt.ev {P : Program} {T : Nat} {s : String} {f : Nat} (h : Mt P T s f) (v : Value) (w : World) : (Go.method (P.types.size + Made.depth) T v s).events P w #[] = #[] := by
 have := h v w
 rw [Sem.runT_eq] at this
 exact (Prod.mk.inj this).2
structure OkS (P : Program) (X : Cx) (ok : Ok) : Prop where
 fn : ∀ c, ok.fn c -> Fn P c
 gl : ∀ x, ok.gl x -> GlX X x
 mt : ∀ T s f, ok.mt T s f -> Mt P T s f
def okX (P : Program) (X : Cx) : Ok := ⟨Fn P, GlX X, Mt P⟩
theorem qtm (P : Program) (X : Cx) : OkS P X (okX P X) := ⟨fun _ h => h, fun _ h => h, fun _ _ _ h => h⟩
theorem qfn {f f' : Glb -> Prop} (h : ∀ x, f x -> f' x) : ∀ {l : List Glb}, qc8 f l -> qc8 f' l
 | [], _ => trivial
 | _ :: _, hl => ⟨h _ hl.1, qfn h hl.2⟩
theorem qi6 (π : List (Nat × Nat)) (s : Nat) : ∀ l, rnN π s l = l.map (rn π s)
 | [] => rfl
 | q :: l => by show rn π s q :: rnN π s l = _; rw [qi6 π s l]; rfl
theorem qg2 : ∀ {l : List Nat}, qd3 l = true -> l.Nodup
 | [], _ => by simp
 | r :: l, h => by
  unfold qd3 at h
  split at h
  ·cases h
  ·rename_i hr
   rw [List.nodup_cons]
   exact ⟨qco hr, qg2 h⟩
theorem qhs : ∀ {l u : List Nat}, allIn l u = true -> ∀ x ∈ l, x ∈ u
 | [], _, _, x, hx => by cases hx
 | r :: l, u, h, x, hx => by
  unfold allIn at h
  split at h
  ·rename_i hr
   rw [List.mem_cons] at hx
   rcases hx with rfl | hx
   ·exact (qcu _ _).1 hr
   ·exact qhs h x hx
  ·cases h
theorem qp6 {f : Nat -> Nat} : ∀ {l : List Nat}, (l.map f).Nodup -> ∀ a ∈ l, ∀ b ∈ l, f a = f b -> a = b
 | [], _, a, ha, _, _, _ => by cases ha
 | x :: l, h, a, ha, b, hb, e => by
  rw [List.map_cons, List.nodup_cons] at h
  rw [List.mem_cons] at ha hb
  rcases ha with rfl | ha <;> rcases hb with rfl | hb
  ·rfl
  ·exact absurd (List.mem_map.2 ⟨b, hb, e.symm⟩) h.1
  ·exact absurd (List.mem_map.2 ⟨a, ha, e⟩) h.1
  ·exact qp6 h.2 a ha b hb e
theorem qbk : ∀ {m : ML} {q : Nat} {b : Option Blk}, lk m q = some b -> q ∈ keys m
 | [], _, _, h => by cases h
 | (k, v) :: m, q, b, h => by
  rw [jy] at h
  by_cases e : k = q
  ·show q ∈ k :: keys m; simp [e]
  ·rw [if_neg e] at h; show q ∈ k :: keys m; simp [qbk h]
theorem qvd : ∀ {m : ML} {q : Nat}, q ∈ keys m -> ∃ b, lk m q = some b
 | [], _, h => by cases h
 | (k, v) :: m, q, h => by
  rw [jy]
  by_cases e : k = q
  ·exact ⟨v, if_pos e⟩
  ·rw [if_neg e]
   have h' : q ∈ k :: keys m := h
   rw [List.mem_cons] at h'
   rcases h' with h' | h'
   ·exact absurd h'.symm e
   ·exact qvd h'
theorem qy0 (π : List (Nat × Nat)) (s : Nat) : ∀ {m : ML} {r : Nat} {b : Option Blk}, (∀ a ∈ keys m, ∀ b ∈ keys m, rn π s a = rn π s b -> a = b) -> lk (rnM π s m) r = some b -> ∃ q b0, rn π s q = r /\ lk m q = some b0 /\ b = b0.map (rnB π s)
 | [], _, _, _, h => by cases h
 | (k, v) :: m, r, b, hi, h => by
  have e1 : rnM π s ((k, v) :: m) = (rn π s k, v.map (rnB π s)) :: rnM π s m := by cases v <;> rfl
  rw [e1, jy] at h
  by_cases e : rn π s k = r
  ·rw [if_pos e] at h
   exact ⟨k, v, e, by rw [jy, if_pos rfl], (Option.some.inj h).symm⟩
  ·rw [if_neg e] at h
   obtain ⟨q, b0, h1, h2, h3⟩ := qy0 π s (fun a ha b hb => hi a (by show a ∈ k :: keys m; simp [ha]) b (by show b ∈ k :: keys m; simp [hb])) h
   refine ⟨q, b0, h1, ?_, h3⟩
   rw [jy, if_neg]
   ·exact h2
   ·rintro rfl; exact e h1
section
variable {P : Program} {X : Cx} {ρ : Env} {w : World} {m : ML} {t : TL} {n : Nat} {a : Act} {g : Option Bool} {π : List (Nat × Nat)} {s : Nat} {kp : List Nat}
theorem qcv (hg : GT g) (hA : ARel X ρ n t a) : ∀ {l : List Operand} {vs : List SV} {ob : List Prop}, qbm t g l = some (vs, ob) -> All ob -> qa9 X ρ vs (l.map a.eval)
 | [], vs, ob, h, _ => by simp [qbm] at h; obtain ⟨rfl, rfl⟩ := h; trivial
 | x :: l, vs, ob, h, ho => by
  unfold qbm at h
  split at h
  ·rename_i v o1 vs' o2 hx hl
   simp at h; obtain ⟨rfl, rfl⟩ := h
   rw [qy] at ho
   exact ⟨qw hx ho.1 hg hA, qcv hg hA hl ho.2⟩
  ·cases h
structure Lends (X Xc : Cx) (ρ ρc : Env) (w : World) (m : ML) (B : Nat -> List Nat) (π : List (Nat × Nat)) (s : Nat) (kp ros : List Nat) : Prop where
 w0 : Xc.w0 = w
 hB : MRelB X ρ w m B
 hW : WRel X w
 env : ∀ q ∈ kp, ρc q = ρ (rn π s q)
 ro : ∀ b, X.F b -> Xc.F b
 lent : ∀ r ∈ ros, ∀ b ∈ B r, Xc.F b
theorem qi7 {Xc : Cx} {ρc : Env} {B : Nat -> List Nat} {ros : List Nat} (L : Lends X Xc ρ ρc w m B π s kp ros) : ∀ {cs cs' : List (Option (Nat × Nat))} {vs : List Value}, mCap kp π s cs cs' = true -> qct ρ cs' vs -> qct ρc cs vs
 | [], [], [], _, _ => trivial
 | [], [], _ :: _, _, h => h.elim
 | none :: l, none :: l', v :: vs, h, hc => ⟨hc.1, qi7 L h hc.2⟩
 | none :: _, none :: _, [], _, hc => hc.elim
 | some (q, j) :: l, some (r, j') :: l', v :: vs, h, hc => by
  unfold mCap at h
  split at h
  ·rename_i h1 h2 h3
   have : rn π s q = r := by rw [← Nat.beq_eq]; exact h2
   subst this
   have : j = j' := by rw [← Nat.beq_eq]; exact h3
   subst this
   obtain ⟨⟨g0, h4, h5⟩, h6⟩ := hc
   exact ⟨⟨g0, (L.env q ((qcu _ _).1 h1)).trans h4, h5⟩, qi7 L h h6⟩
  ·cases h
 | some _ :: _, some _ :: _, [], _, hc => hc.elim
 | [], none :: _, _, h, _ => by simp [mCap] at h
 | [], some _ :: _, _, h, _ => by simp [mCap] at h
 | none :: _, [], _, h, _ => by simp [mCap] at h
 | some _ :: _, [], _, h, _ => by simp [mCap] at h
 | none :: _, some _ :: _, _, h, _ => by simp [mCap] at h
 | some _ :: _, none :: _, _, h, _ => by simp [mCap] at h
theorem qrk {Xc : Cx} {ρc : Env} {B : Nat -> List Nat} {ros : List Nat} (L : Lends X Xc ρ ρc w m B π s kp ros) {m' : ML} (hm : m' = m ∨ m' = []) {c c' : CV} {o : List Prop} {r1 : List Nat} {x : Value} (h : mC kp π s m' c c' = some (o, r1)) (ho : All o) (hr : ∀ r ∈ r1, r ∈ ros) (hc : CRel X ρ c' x) : CRel Xc ρc c x := by
 unfold mC at h
 split at h
 ·simp at h; obtain ⟨rfl, rfl⟩ := h
  obtain ⟨rfl, _⟩ := ho
  exact hc
 ·rename_i T k n c T' k' n' c'
  split at h
  ·rename_i h1 h2
   simp at h; obtain ⟨rfl, rfl⟩ := h
   obtain ⟨rfl, rfl, _⟩ := ho
   have : T = T' := by rw [← Nat.beq_eq]; exact h1
   subst this
   have : k = k' := by rw [← Nat.beq_eq]; exact h2
   subst this
   show RdO Xc.w0 Xc.F _ _
   rw [L.w0]
   exact qcm (fun _ _ => rfl) L.ro _ (qkv L.hW hc)
  ·cases h
 ·rename_i T k n c r
  split at h
  ·rename_i T' k' l hl
   split at h
   ·rename_i h1 h2
    simp at h; obtain ⟨rfl, rfl⟩ := h
    obtain ⟨rfl, rfl, _⟩ := ho
    have : T = T' := by rw [← Nat.beq_eq]; exact h1
    subst this
    have : k = k' := by rw [← Nat.beq_eq]; exact h2
    subst this
    rcases hm with rfl | rfl
    ·obtain ⟨y, h3, h4, _⟩ := L.hB.blk r _ hl
     rw [hc.1] at h3
     obtain rfl := Option.some.inj h3
     show RdO Xc.w0 Xc.F _ _
     rw [L.w0]
     exact qjn _ h4 (L.lent r (hr r (by simp)))
    ·cases hl
   ·cases h
  ·rename_i T' k' l hl
   split at h
   ·rename_i h1 h2
    simp at h; obtain ⟨rfl, rfl⟩ := h
    obtain ⟨rfl, rfl, _⟩ := ho
    have : T = T' := by rw [← Nat.beq_eq]; exact h1
    subst this
    have : k = k' := by rw [← Nat.beq_eq]; exact h2
    subst this
    rcases hm with rfl | rfl
    ·obtain ⟨g, cur, h3, h4, h5, h6, h7, h8, h9⟩ := L.hB.blk r _ hl
     rw [hc.1] at h3
     obtain rfl := Option.some.inj h3
     have hcl : cur.toList.length = cur.size := Array.length_toList
     show RdO Xc.w0 Xc.F _ _
     rw [L.w0]
     refine ⟨_, [], rfl, rfl, .inr ⟨g, 0, l.length, cur.toList, rfl, Nat.le_refl _, h6, by omega, fun j hj => ?_, fun _ => L.lent r (hr r (by simp)) g (by rw [h5]; simp), qcm (fun _ _ => rfl) L.ro _ (qkv L.hW h9)⟩⟩
     rw [cell_of_block h4, Nat.zero_add, Array.getElem?_toList]
    ·cases hl
   ·cases h
  ·cases h
 ·rename_i T k n c
  simp at h; obtain ⟨rfl, rfl⟩ := h
  obtain ⟨rfl, rfl, _⟩ := ho
  obtain ⟨rfl, _⟩ := hc
  exact ⟨_, [], rfl, rfl, .inl ⟨⟨none, 0, rfl, fun _ => rfl⟩, rfl, rfl⟩⟩
 ·rename_i T k n c r k' a n'
  split at h
  ·rename_i T' k2 l hl
   split at h
   ·rename_i h1 h2 h2'
    simp at h; obtain ⟨rfl, rfl⟩ := h
    obtain ⟨rfl, rfl, _⟩ := ho
    have : T = T' := by rw [← Nat.beq_eq]; exact h1
    subst this
    have : k = k2 := by rw [← Nat.beq_eq]; exact h2
    subst this
    have : k' = k := by rw [← Nat.beq_eq]; exact h2'
    subst this
    rcases hm with rfl | rfl
    ·obtain ⟨y, h3, h4, h5, _⟩ := L.hB.blk r _ hl
     obtain ⟨A, len, cap, h6, h7, h8⟩ := hc
     rw [h6] at h3
     obtain rfl := Option.some.inj h3
     show RdO Xc.w0 Xc.F _ _
     rw [L.w0, h7]
     exact qyz h5 (qjn _ h4 (L.lent r (hr r (by simp)))) h8
    ·cases hl
   ·cases h
  ·cases h
 ·rename_i T d T' d'
  split at h
  ·rename_i h1
   simp at h; obtain ⟨rfl, rfl⟩ := h
   obtain ⟨rfl, _⟩ := ho
   have : T = T' := by rw [← Nat.beq_eq]; exact h1
   subst this
   obtain ⟨vs, h2, h3, h4⟩ := hc
   refine ⟨vs, h2, ?_, h4⟩
   rw [L.w0]
   exact qcm (fun _ _ => rfl) L.ro _ (qkv L.hW h3)
  ·cases h
 ·rename_i q r
  split at h
  ·rename_i h1 h2
   simp at h; obtain ⟨rfl, rfl⟩ := h
   have : rn π s q = r := by rw [← Nat.beq_eq]; exact h2
   subst this
   exact ⟨(L.env q ((qcu _ _).1 h1)).trans hc.1, hc.2⟩
  ·cases h
 ·rename_i q j r j'
  split at h
  ·rename_i h1 h2 h3
   simp at h; obtain ⟨rfl, rfl⟩ := h
   have : rn π s q = r := by rw [← Nat.beq_eq]; exact h2
   subst this
   have : j = j' := by rw [← Nat.beq_eq]; exact h3
   subst this
   obtain ⟨g0, h4, h5⟩ := hc
   exact ⟨g0, (L.env q ((qcu _ _).1 h1)).trans h4, h5⟩
  ·cases h
 ·rename_i f cs f' cs'
  split at h
  ·rename_i h1 h2
   simp at h; obtain ⟨rfl, rfl⟩ := h
   have : f = f' := by rw [← Nat.beq_eq]; exact h1
   subst this
   obtain ⟨vs, h3, h4⟩ := hc
   exact ⟨vs, h3, qi7 L h2 h4⟩
  ·cases h
 ·cases h
theorem qk2 {Xc : Cx} {ρc : Env} {B : Nat -> List Nat} {ros : List Nat} (L : Lends X Xc ρ ρc w m B π s kp ros) {m' : ML} (hm : m' = m ∨ m' = []) : ∀ {l l' : List CV} {o : List Prop} {r1 : List Nat} {xs : List Value}, mCs kp π s m' l l' = some (o, r1) -> All o -> (∀ r ∈ r1, r ∈ ros) -> qaj X ρ l' xs -> qaj Xc ρc l xs
 | [], [], o, r1, [], h, _, _, hc => trivial
 | [], [], o, r1, _ :: _, h, _, _, hc => hc.elim
 | c :: l, c' :: l', o, r1, x :: xs, h, ho, hr, hc => by
  unfold mCs at h
  split at h
  ·rename_i o1 q1 o2 q2 h1 h2
   simp at h; obtain ⟨rfl, rfl⟩ := h
   rw [qy] at ho
   rw [qan] at hr
   exact ⟨qrk L hm h1 ho.1 (fun r hr' => hr r (by simp [hr'])) hc.1, qk2 L hm h2 ho.2 (fun r hr' => hr r (by simp [hr'])) hc.2⟩
  ·cases h
 | _ :: _, _ :: _, _, _, [], _, _, _, hc => hc.elim
 | [], _ :: _, _, _, _, h, _, _, _ => by simp [mCs] at h
 | _ :: _, [], _, _, _, h, _, _, _ => by simp [mCs] at h
theorem qy1 {Xc : Cx} {ρc : Env} {B : Nat -> List Nat} {ros : List Nat} (L : Lends X Xc ρ ρc w m B π s kp ros) : ∀ {c c' : SV} {o : List Prop} {r1 : List Nat} {x : Value}, mS kp π s m c c' = some (o, r1) -> All o -> (∀ r ∈ r1, r ∈ ros) -> SRel X ρ c' x -> SRel Xc ρc c x
 | .one _, .one _, _, _, _, h, ho, hr, hc => qrk L (.inl rfl) h ho hr hc
 | .agg _, .agg _, _, _, _, h, ho, hr, ⟨vs, h1, h2⟩ => ⟨vs, h1, qk2 L (.inl rfl) h ho hr h2⟩
 | .one _, .agg _, _, _, _, h, _, _, _ => by simp [mS] at h
 | .agg _, .one _, _, _, _, h, _, _, _ => by simp [mS] at h
theorem qov {Xc : Cx} {ρc : Env} {B : Nat -> List Nat} {ros : List Nat} (L : Lends X Xc ρ ρc w m B π s kp ros) : ∀ {l l' : List SV} {o : List Prop} {r1 : List Nat} {xs : List Value}, mSs kp π s m l l' = some (o, r1) -> All o -> (∀ r ∈ r1, r ∈ ros) -> qa9 X ρ l' xs -> qa9 Xc ρc l xs
 | [], [], o, r1, [], h, _, _, hc => trivial
 | [], [], o, r1, _ :: _, h, _, _, hc => hc.elim
 | c :: l, c' :: l', o, r1, x :: xs, h, ho, hr, hc => by
  unfold mSs at h
  split at h
  ·rename_i o1 q1 o2 q2 h1 h2
   simp at h; obtain ⟨rfl, rfl⟩ := h
   rw [qy] at ho
   rw [qan] at hr
   exact ⟨qy1 L h1 ho.1 (fun r hr' => hr r (by simp [hr'])) hc.1, qov L h2 ho.2 (fun r hr' => hr r (by simp [hr'])) hc.2⟩
  ·cases h
 | _ :: _, _ :: _, _, _, [], _, _, _, hc => hc.elim
 | [], _ :: _, _, _, _, h, _, _, _ => by simp [mSs] at h
 | _ :: _, [], _, _, _, h, _, _, _ => by simp [mSs] at h
theorem q7r : ∀ {c c' : CV} {o : List Prop} {r1 : List Nat}, mC kp π s [] c c' = some (o, r1) -> r1 = [] := by
 intro c c' o r1 h
 unfold mC at h
 split at h
 ·simp at h; exact h.2.symm ▸ rfl
 ·split at h
  ·simp at h; exact h.2.symm ▸ rfl
  ·cases h
 ·simp [lk] at h
 ·simp at h; exact h.2.symm ▸ rfl
 ·simp [lk] at h
 ·split at h
  ·simp at h; exact h.2.symm ▸ rfl
  ·cases h
 ·split at h
  ·simp at h; exact h.2.symm ▸ rfl
  ·cases h
 ·split at h
  ·simp at h; exact h.2.symm ▸ rfl
  ·cases h
 ·split at h
  ·simp at h; exact h.2.symm ▸ rfl
  ·cases h
 ·cases h
theorem qve : ∀ {l l' : List CV} {o : List Prop} {r1 : List Nat}, mCs kp π s [] l l' = some (o, r1) -> r1 = []
 | [], [], _, _, h => by simp [mCs] at h; exact h.2.symm ▸ rfl
 | c :: l, c' :: l', o, r1, h => by
  unfold mCs at h
  split at h
  ·rename_i o1 q1 o2 q2 h1 h2
   simp at h; obtain ⟨rfl, rfl⟩ := h
   rw [q7r h1, qve h2]; rfl
  ·cases h
 | [], _ :: _, _, _, h => by simp [mCs] at h
 | _ :: _, [], _, _, h => by simp [mCs] at h
theorem qy2 {Xc : Cx} {ρc : Env} {B : Nat -> List Nat} {ros : List Nat} (L : Lends X Xc ρ ρc w m B π s kp ros) {q : Nat} (hq : q ∈ kp) {b b' : Blk} {o : List Prop} {bs : List Nat} (h : eB kp π s b b' = some o) (ho : All o) (hb : BRel X ρ w (rn π s q) b' bs) : BRel Xc ρc w q b bs := by
 unfold eB at h
 split at h
 ·rename_i T vs T' vs'
  split at h
  ·rename_i o' r1 h1 h2
   obtain rfl := Option.some.inj h
   have : T = T' := by rw [← Nat.beq_eq]; exact h1
   subst this
   obtain ⟨g0, cur, k1, k2, k3, k4⟩ := hb
   have := qve h2
   subst this
   exact ⟨g0, cur, (L.env q hq).trans k1, k2, k3, qk2 L (.inr rfl) h2 ho (by simp) k4⟩
  ·cases h
 ·rename_i T k l T' k' l'
  split at h
  ·rename_i h1 h2
   obtain rfl := Option.some.inj h
   have : T = T' := by rw [← Nat.beq_eq]; exact h1
   subst this
   have : k = k' := by rw [← Nat.beq_eq]; exact h2
   subst this
   obtain ⟨rfl, _⟩ := ho
   obtain ⟨y, k1, k2⟩ := hb
   exact ⟨y, (L.env q hq).trans k1, k2⟩
  ·cases h
 ·cases h
theorem qi8 : ∀ {l : ML} {o : List Prop}, mPre kp π s m l = some o -> All o -> ∀ q b, lk l q = some b -> ∃ bq b' o', b = some bq /\ lk m (rn π s q) = some (some b') /\ eB kp π s bq b' = some o' /\ All o'
 | [], _, _, _, q, b, h => by cases h
 | (k, some b0) :: l, o, h, ho, q, b, hq => by
  unfold mPre at h
  split at h
  ·rename_i b' o2 h1 h2
   split at h
   ·rename_i o1 h3
    obtain rfl := Option.some.inj h
    rw [qy] at ho
    rw [jy] at hq
    by_cases e : k = q
    ·subst e
     rw [if_pos rfl] at hq
     exact ⟨b0, b', o1, (Option.some.inj hq).symm, h1, h3, ho.1⟩
    ·rw [if_neg e] at hq
     exact qi8 h2 ho.2 q b hq
   ·cases h
  ·cases h
 | (k, none) :: l, o, h, _, _, _, _ => by simp [mPre] at h
end
structure Back (X Xc : Cx) (ρ' ρn : Env) (π : List (Nat × Nat)) (s : Nat) (all : List Nat) : Prop where
 env : ∀ q ∈ all, ρn (rn π s q) = ρ' q
 nm : ∀ q y, ρ' q = some y -> q ∈ all
theorem qht {X Xc : Cx} {ρ' ρn : Env} {π : List (Nat × Nat)} {s : Nat} {all : List Nat} (K : Back X Xc ρ' ρn π s all) : ∀ {l : List (Option (Nat × Nat))} {vs : List Value}, qct ρ' l vs -> qct ρn (zx π s l) vs
 | [], [], _ => trivial
 | none :: _, _ :: _, h => ⟨h.1, qht K h.2⟩
 | some _ :: _, _ :: _, h => by obtain ⟨⟨g, h1, h2⟩, h3⟩ := h; exact ⟨⟨g, (K.env _ (K.nm _ _ h1)).trans h1, h2⟩, qht K h3⟩
 | [], _ :: _, h => h.elim
 | none :: _, [], h => h.elim
 | some _ :: _, [], h => h.elim
theorem qow {X Xc : Cx} {c : CV} {ρ' ρn : Env} {π : List (Nat × Nat)} {s : Nat} {all : List Nat} (K : Back X Xc ρ' ρn π s all) (hro : (∀ d vs, RdO Xc.w0 Xc.F d vs -> RdO X.w0 X.F d vs) ∨ qys c = true) {x : Value} (h : CRel Xc ρ' c x) : CRel X ρn (rnC π s c) x := by
 cases c with
 | lit v => exact h
 | ro T k n d =>
  rcases hro with hro | hro
  ·exact hro _ _ h
  ·cases hro
 | hd r => exact ⟨(K.env r (K.nm _ _ h.1)).trans h.1, h.2⟩
 | box r j => obtain ⟨g, h1, h2⟩ := h; exact ⟨g, (K.env r (K.nm _ _ h1)).trans h1, h2⟩
 | el r k i j => obtain ⟨g, o, n, cap, h1, h2⟩ := h; exact ⟨g, o, n, cap, (K.env r (K.nm _ _ h1)).trans h1, h2⟩
 | ifro T d =>
  rcases hro with hro | hro
  ·obtain ⟨vs, h1, h3, h4⟩ := h; exact ⟨vs, h1, hro _ _ h3, h4⟩
  ·cases hro
 | fn f cs => obtain ⟨vs, h1, h2⟩ := h; exact ⟨vs, h1, qht K h2⟩
 | part r k a n => obtain ⟨A, len, cap, h1, h2⟩ := h; exact ⟨A, len, cap, (K.env r (K.nm _ _ h1)).trans h1, h2⟩
 | roel T k n d i j =>
  rcases hro with hro | hro
  ·obtain ⟨g, o, cap, h1, h3⟩ := h; exact ⟨g, o, cap, hro _ _ h1, h3⟩
  ·cases hro
theorem qi9 {X Xc : Cx} {ρ' ρn : Env} {π : List (Nat × Nat)} {s : Nat} {all : List Nat} (K : Back X Xc ρ' ρn π s all) : ∀ {l : List CV} {vs : List Value}, ((∀ d vs, RdO Xc.w0 Xc.F d vs -> RdO X.w0 X.F d vs) ∨ qi3 l = true) -> qaj Xc ρ' l vs -> qaj X ρn (rnCs π s l) vs
 | [], [], _, _ => trivial
 | c :: l, v :: vs, hro, h => by
  refine ⟨qow K ?_ h.1, qi9 K ?_ h.2⟩
  ·rcases hro with hro | hro
   ·exact .inl hro
   ·unfold qi3 at hro; split at hro
    ·rename_i h1; exact .inr h1
    ·cases hro
  ·rcases hro with hro | hro
   ·exact .inl hro
   ·unfold qi3 at hro; split at hro
    ·exact .inr hro
    ·cases hro
 | [], _ :: _, _, h => h.elim
 | _ :: _, [], _, h => h.elim
theorem qk3 {X Xc : Cx} {ρ' ρn : Env} {π : List (Nat × Nat)} {s : Nat} {all : List Nat} (K : Back X Xc ρ' ρn π s all) : ∀ {v : SV} {x : Value}, ((∀ d vs, RdO Xc.w0 Xc.F d vs -> RdO X.w0 X.F d vs) ∨ qu5 v = true) -> SRel Xc ρ' v x -> SRel X ρn (rnS π s v) x
 | .one c, x, hro, h => qow K hro h
 | .agg l, x, hro, ⟨vs, h1, h2⟩ => ⟨vs, h1, qi9 K hro h2⟩
theorem qng {X Xc : Cx} {ρ' ρn : Env} {π : List (Nat × Nat)} {s : Nat} {all : List Nat} (K : Back X Xc ρ' ρn π s all) : ∀ {l : List SV} {vs : List Value}, ((∀ d vs, RdO Xc.w0 Xc.F d vs -> RdO X.w0 X.F d vs) ∨ qm3 l = true) -> qa9 Xc ρ' l vs -> qa9 X ρn (rnSs π s l) vs
 | [], [], _, _ => trivial
 | c :: l, v :: vs, hro, h => by
  refine ⟨qk3 K ?_ h.1, qng K ?_ h.2⟩
  ·rcases hro with hro | hro
   ·exact .inl hro
   ·unfold qm3 at hro; split at hro
    ·rename_i h1; exact .inr h1
    ·cases hro
  ·rcases hro with hro | hro
   ·exact .inl hro
   ·unfold qm3 at hro; split at hro
    ·exact .inr hro
    ·cases hro
 | [], _ :: _, _, h => h.elim
 | _ :: _, [], _, h => h.elim
theorem qw6 {X Xc : Cx} {ρ' ρn : Env} {π : List (Nat × Nat)} {s : Nat} {all : List Nat} (K : Back X Xc ρ' ρn π s all) : ∀ {v : TV} {x : Value}, ((∀ d vs, RdO Xc.w0 Xc.F d vs -> RdO X.w0 X.F d vs) ∨ qom v = true) -> TRel Xc ρ' v x -> TRel X ρn (rnT π s v) x
 | .sv v, x, hro, h => qk3 K hro h
 | .tup l, x, hro, ⟨vs, h1, h2⟩ => ⟨vs, h1, qng K hro h2⟩
 | .gd b v, x, hro, h => ⟨fun hb => qk3 K hro (h.1 hb), h.2⟩
theorem qrl : ∀ {m : ML} {q : Nat} {T : Nat} {vs : List CV}, qiw m = true -> lk m q = some (some (.box T vs)) -> qi3 vs = true
 | [], _, _, _, _, h => by cases h
 | (k, b) :: m, q, T, vs, hn, h => by
  rw [jy] at h
  unfold qiw at hn
  split at hn
  ·rename_i hb
   by_cases e : k = q
   ·rw [if_pos e] at h
    obtain rfl := Option.some.inj h
    exact hb
   ·rw [if_neg e] at h
    exact qrl hn h
  ·cases hn
theorem qrm : ∀ {m : ML} {q : Nat} {T k : Nat} {l : List D}, qiw m = true -> lk m q = some (some (.rro T k l)) -> False
 | [], _, _, _, _, _, h => by cases h
 | (k, b) :: m, q, T, _, _, hn, h => by
  rw [jy] at h
  unfold qiw at hn
  split at hn
  ·rename_i hb
   by_cases e : k = q
   ·rw [if_pos e] at h
    obtain rfl := Option.some.inj h
    cases hb
   ·rw [if_neg e] at h
    exact qrm hn h
  ·cases hn
theorem qvf {kp : List Nat} {π : List (Nat × Nat)} {s : Nat} {m : ML} {c c' : CV} {o : List Prop} {r1 : List Nat} (h : mC kp π s m c c' = some (o, r1)) : ∀ r ∈ r1, ∃ b', lk m r = some (some b') := by
 unfold mC at h
 split at h
 ·simp at h; obtain ⟨_, rfl⟩ := h; simp
 ·split at h
  ·simp at h; obtain ⟨_, rfl⟩ := h; simp
  ·cases h
 ·split at h
  ·rename_i hl
   split at h
   ·simp at h; obtain ⟨_, rfl⟩ := h
    intro r hr
    obtain rfl := List.mem_singleton.1 hr
    exact ⟨_, hl⟩
   ·cases h
  ·rename_i hl
   split at h
   ·simp at h; obtain ⟨_, rfl⟩ := h
    intro r hr
    obtain rfl := List.mem_singleton.1 hr
    exact ⟨_, hl⟩
   ·cases h
  ·cases h
 ·simp at h; obtain ⟨_, rfl⟩ := h; simp
 ·split at h
  ·rename_i hl
   split at h
   ·simp at h; obtain ⟨_, rfl⟩ := h
    intro r hr
    obtain rfl := List.mem_singleton.1 hr
    exact ⟨_, hl⟩
   ·cases h
  ·cases h
 ·split at h
  ·simp at h; obtain ⟨_, rfl⟩ := h; simp
  ·cases h
 ·split at h
  ·simp at h; obtain ⟨_, rfl⟩ := h; simp
  ·cases h
 ·split at h
  ·simp at h; obtain ⟨_, rfl⟩ := h; simp
  ·cases h
 ·split at h
  ·simp at h; obtain ⟨_, rfl⟩ := h; simp
  ·cases h
 ·cases h
theorem qrn {kp : List Nat} {π : List (Nat × Nat)} {s : Nat} {m : ML} : ∀ {l l' : List CV} {o : List Prop} {r1 : List Nat}, mCs kp π s m l l' = some (o, r1) -> ∀ r ∈ r1, ∃ b', lk m r = some (some b')
 | [], [], o, r1, h, r, hr => by simp [mCs] at h; obtain ⟨_, rfl⟩ := h; cases hr
 | c :: l, c' :: l', o, r1, h, r, hr => by
  unfold mCs at h
  split at h
  ·rename_i o1 q1 o2 q2 h1 h2
   simp at h; obtain ⟨rfl, rfl⟩ := h
   rw [qan, List.mem_append] at hr
   exact hr.elim (qvf h1 r) (qrn h2 r)
  ·cases h
 | [], _ :: _, _, _, h, _, _ => by simp [mCs] at h
 | _ :: _, [], _, _, h, _, _ => by simp [mCs] at h
theorem qro {kp : List Nat} {π : List (Nat × Nat)} {s : Nat} {m : ML} : ∀ {l l' : List SV} {o : List Prop} {r1 : List Nat}, mSs kp π s m l l' = some (o, r1) -> ∀ r ∈ r1, ∃ b', lk m r = some (some b')
 | [], [], o, r1, h, r, hr => by simp [mSs] at h; obtain ⟨_, rfl⟩ := h; cases hr
 | c :: l, c' :: l', o, r1, h, r, hr => by
  unfold mSs at h
  split at h
  ·rename_i o1 q1 o2 q2 h1 h2
   simp at h; obtain ⟨rfl, rfl⟩ := h
   rw [qan, List.mem_append] at hr
   refine hr.elim (fun hr => ?_) (qro h2 r)
   cases c <;> cases c' <;> simp only [mS] at h1
   ·exact qvf h1 r hr
   ·cases h1
   ·cases h1
   ·exact qrn h1 r hr
  ·cases h
 | [], _ :: _, _, _, h, _, _ => by simp [mSs] at h
 | _ :: _, [], _, _, h, _, _ => by simp [mSs] at h
section
variable {P : Program} {X : Cx} {ρ : Env} {w : World} {m : ML} {tt : TT} {t : TL} {n : Nat} {a : Act} {g : Option Bool}
theorem qnh {T : (Ending -> World -> Prop) -> Prop} (hT : ∀ R R' : Ending -> World -> Prop, (∀ v w', R (.returned v) w' -> R' (.returned v) w') -> T R -> T R') {c : CFD} {π : List (Nat × Nat)} {s : Nat} {vs : List SV} {o2 o3 : List Prop} {ros : List Nat} {xs : List Value} (h2 : mSs (keys c.pre) π s m c.args vs = some (o2, ros)) (ho2 : All o2) (h3 : mPre (keys c.pre) π s m c.pre = some o3) (ho3 : All o3)
  (hn1 : qd3 (app (rnN π s (keys c.pre)) (rnN π s c.nm)) = true) (hin : allIn (keys c.post) (app (keys c.pre) c.nm) = true) (hd : disj ros (rnN π s (keys c.pre)) = true) (hro : ros = [] ∨ (qom c.res = true /\ qiw c.post = true)) (hf : ∀ (Xc : Cx) (ρc : Env), Xc.w0 = w -> Xc.H = X.H -> Xc.Pt = X.Pt -> Xc.ds = [] -> qc8 (GlX Xc) c.gl -> MRel Xc ρc Xc.w0 c.pre -> (∀ q y, ρc q = some y -> q ∈ keys c.pre) -> qa9 Xc ρc c.args xs -> T (qjw Xc ρc c)) (hgl : qc8 (GlX X) c.gl)
  (hfr : ∀ r ∈ rnN π s c.nm, ρ r = none) (hx : qa9 X ρ vs xs) (hM : MRel X ρ w m) (hW : WRel X w) :
  T (fun e w' => ∃ v ρn, e = .returned v /\ TRel X ρn (rnT π s c.res) v /\ Ext ρ ρn /\ (∀ r y, ρn r = some y -> ρ r = some y ∨ r ∈ rnN π s c.nm) /\ MRel X ρn w' (app (app (rnM π s c.post) (dropped (rnN π s (keys c.pre)))) m) /\ WRel X w') := by
 obtain ⟨B, hB⟩ := hM
 have hnd := qg2 hn1
 rw [qan, qi6, qi6, ← List.map_append] at hnd
 have hinj := qp6 hnd
 have hall := qhs hin
 rw [qan] at hall
 have hdis := qax hd
 rw [qi6] at hdis hfr
 have hlive : ∀ q ∈ keys c.pre, ∃ b', lk m (rn π s q) = some (some b') := by
  intro q hq
  obtain ⟨b, hb⟩ := qvd hq
  obtain ⟨bq, b', o', _, h5, _⟩ := qi8 h3 ho3 q b hb
  exact ⟨b', h5⟩
 have hrosl : ∀ r ∈ ros, ∃ b', lk m r = some (some b') := qro h2
 let ρc : Env := fun q => if q ∈ keys c.pre then ρ (rn π s q) else none
 have hFG : ∀ b, (X.F b ∨ ∃ r ∈ ros, b ∈ B r) -> b < w.heap.size /\ ∀ q ∈ keys c.pre, b ∉ B (rn π s q) := by
  rintro b (hb | ⟨r, hr, hb⟩)
  ·refine ⟨hW.lt b (X.hF b hb), fun q hq hbq => ?_⟩
   obtain ⟨b', hb'⟩ := hlive q hq
   exact hB.nf _ b' hb' b hbq (X.hF b hb)
  ·obtain ⟨b1, hb1⟩ := hrosl r hr
   refine ⟨(hB.blk r b1 hb1).lt b hb, fun q hq hbq => ?_⟩
   obtain ⟨b', hb'⟩ := hlive q hq
   exact hB.dj r (rn π s q) b1 b' (fun e => hdis r hr (e ▸ List.mem_map_of_mem hq)) hb1 hb' b hb hbq
 have hPG' : ∀ b, X.Pt b -> b < w.heap.size /\ ∀ q ∈ keys c.pre, b ∉ B (rn π s q) := fun b hb => ⟨hW.lt b (X.hPG b hb), fun q hq hbq => by
  obtain ⟨b', hb'⟩ := hlive q hq
  exact hB.nf _ b' hb' b hbq (X.hPG b hb)⟩
 have hHF' : ∀ b, (X.F b ∨ ∃ r ∈ ros, b ∈ B r) -> ¬ X.H b := by
  rintro b (hb | ⟨r, hr, hb⟩) hh
  ·exact X.hHF b hb hh
  ·obtain ⟨b1, hb1⟩ := hrosl r hr
   exact hB.nf r b1 hb1 b hb (X.hPG b (X.hHP b hh))
 let Xc : Cx := ⟨w, fun b => X.F b ∨ ∃ r ∈ ros, b ∈ B r, fun b => b < w.heap.size /\ ∀ q ∈ keys c.pre, b ∉ B (rn π s q), hFG, fun b h => h.1, X.H, X.Pt, X.hHP, hPG', hHF', []⟩
 have L : Lends X Xc ρ ρc w m B π s (keys c.pre) ros := ⟨rfl, hB, hW, fun q hq => if_pos hq, fun b hb => .inl hb, fun r hr b hb => .inr ⟨r, hr, hb⟩⟩
 have hMc : MRelB Xc ρc w c.pre (fun q => B (rn π s q)) := by
  refine ⟨fun q bq hq => ?_, fun q bq hq => ?_, fun q bq hq x hx hg => ?_, fun q q' bq bq' hne hq hq' => ?_⟩
  ·obtain ⟨bq', b', o', e1, h5, h6, h7⟩ := qi8 h3 ho3 q _ hq
   cases e1
   exact qy2 L (qbk hq) h6 h7 (hB.blk _ _ h5)
  ·obtain ⟨b', hb'⟩ := hlive q (qbk hq); exact hB.nd _ b' hb'
  ·exact hg.2 q (qbk hq) hx
  ·obtain ⟨b1, hb1⟩ := hlive q (qbk hq)
   obtain ⟨b2, hb2⟩ := hlive q' (qbk hq')
   exact hB.dj _ _ b1 b2 (fun e => hne (hinj q (by simp [qbk hq]) q' (by simp [qbk hq']) e)) hb1 hb2
 refine hT _ _ ?_ (hf Xc ρc rfl rfl rfl rfl (qfn (fun x hx => ⟨(hW.frz x.g hx.2 hx.3).trans hx.1, ⟨hW.lt x.g hx.2, fun q hq hbq => by
  obtain ⟨b', hb'⟩ := hlive q hq
  exact hB.nf _ b' hb' x.g hbq hx.2⟩, hx.3⟩) hgl) ⟨_, hMc⟩ (fun q y h => by
  by_cases hq : q ∈ keys c.pre
  ·exact hq
  ·have h' : (if q ∈ keys c.pre then ρ (rn π s q) else none) = some y := h
   rw [if_neg hq] at h'; cases h') (qov L h2 ho2 (fun _ h => h) hx))
 rintro v0 w' ⟨v, ρ', e0, hv, hext, hnm, ⟨B', hB'⟩, hW'⟩
 obtain rfl : v = v0 := by cases e0; rfl
 let fnd : Nat -> Option Nat := fun r => (keys c.pre ++ c.nm).find? (fun q => rn π s q == r)
 let ρn : Env := fun r => match fnd r with | some q => ρ' q | none => ρ r
 have hfnd : ∀ q ∈ keys c.pre ++ c.nm, fnd (rn π s q) = some q := by
  intro q hq
  show (keys c.pre ++ c.nm).find? (fun q' => rn π s q' == rn π s q) = some q
  cases hf' : (keys c.pre ++ c.nm).find? (fun q' => rn π s q' == rn π s q) with
  | none => exact absurd (List.find?_eq_none.1 hf' q hq) (by simp)
  | some q' =>
   have h5 := List.find?_some hf'
   have h6 := List.mem_of_find?_eq_some hf'
   rw [hinj q' h6 q hq (by simpa using h5)]
 have hat : ∀ q ∈ keys c.pre ++ c.nm, ρn (rn π s q) = ρ' q := by
  intro q hq
  show (match fnd (rn π s q) with | some q => ρ' q | none => ρ (rn π s q)) = ρ' q
  rw [hfnd q hq]
 have hsp : ∀ r, (∃ q ∈ keys c.pre ++ c.nm, rn π s q = r /\ ρn r = ρ' q) ∨ ((∀ q ∈ keys c.pre ++ c.nm, rn π s q ≠ r) /\ ρn r = ρ r) := by
  intro r
  cases hf' : fnd r with
  | some q =>
   have h5 := List.find?_some hf'
   have h6 := List.mem_of_find?_eq_some hf'
   exact .inl ⟨q, h6, by simpa using h5, by show (match fnd r with | some q => ρ' q | none => ρ r) = _; rw [hf']⟩
  | none =>
   refine .inr ⟨fun q hq e => ?_, by show (match fnd r with | some q => ρ' q | none => ρ r) = _; rw [hf']⟩
   exact List.find?_eq_none.1 hf' q hq (by simpa using e)
 have hpre : ∀ q ∈ keys c.pre, ∀ y, ρ (rn π s q) = some y -> ρ' q = some y := fun q hq y hy => hext q y ((if_pos hq : ρc q = _).trans hy)
 have hEx : Ext ρ ρn := by
  intro r y hr
  rcases hsp r with ⟨q, hq, rfl, h5⟩ | ⟨_, h5⟩
  ·rw [h5]
   rw [List.mem_append] at hq
   rcases hq with hq | hq
   ·exact hpre q hq y hr
   ·rw [hfr _ (List.mem_map_of_mem hq)] at hr; cases hr
  ·rw [h5]; exact hr
 have K : Back X Xc ρ' ρn π s (keys c.pre ++ c.nm) := ⟨hat, fun q y h => by rw [List.mem_append]; exact hnm q y h⟩
 have hro1 : ros = [] -> ∀ d vs, RdO Xc.w0 Xc.F d vs -> RdO X.w0 X.F d vs := by
  intro hr d vs h5
  have hFF : ∀ b, Xc.F b -> X.F b := by
   rintro b (h | ⟨r, hr', _⟩)
   ·exact h
   ·rw [hr] at hr'; cases hr'
  exact qcm (fun b hb => (hW.frz b (X.hF b (hFF b hb)) (X.hHF b (hFF b hb))).symm) hFF _ h5
 have hW2 : WRel X w' := by
  refine ⟨hW'.os.trans hW.os, hW'.tape.trans hW.tape, hW'.output.trans hW.output, Nat.le_trans hW.size hW'.size, fun b hb hh => (hW'.frz b ⟨hW.lt b hb, fun q hq hbq => ?_⟩ hh).trans (hW.frz b hb hh)⟩
  obtain ⟨b', hb'⟩ := hlive q hq
  exact hB.nf _ b' hb' b hbq hb
 refine ⟨v, ρn, rfl, qw6 K ?_ hv, hEx, ?_, ?_, hW2⟩
 ·rcases hro with hro | hro
  ·exact .inl (hro1 hro)
  ·exact .inr hro.1
 ·intro r y hr
  rcases hsp r with ⟨q, hq, rfl, h5⟩ | ⟨_, h5⟩
  ·rw [List.mem_append] at hq
   rcases hq with hq | hq
   ·obtain ⟨b', hb'⟩ := hlive q hq
    have hsome : ∃ y', ρ (rn π s q) = some y' := by
     have := hB.blk _ b' hb'
     cases b' with
     | box T vs => obtain ⟨g0, cur, h6, _⟩ := this; exact ⟨_, h6⟩
     | row T k l => obtain ⟨y', h6, _⟩ := this; exact ⟨_, h6⟩
     | pin q' x' => exact ⟨_, this.1⟩
     | rro T k l => obtain ⟨g0, cur, h6, _⟩ := this; exact ⟨_, h6⟩
    obtain ⟨y', hy'⟩ := hsome
    rw [h5, hpre q hq y' hy'] at hr
    exact .inl (hy'.trans hr)
   ·exact .inr (by rw [qi6]; exact List.mem_map_of_mem hq)
  ·rw [h5] at hr; exact .inl hr
 ·
  have hkinj : ∀ a ∈ keys c.post, ∀ b ∈ keys c.post, rn π s a = rn π s b -> a = b := fun a ha b hb e => hinj a (hall a ha) b (hall b hb) e
  have hent : ∀ r b, lk (app (app (rnM π s c.post) (dropped (rnN π s (keys c.pre)))) m) r = some (some b) -> (∃ q b0, rn π s q = r /\ lk c.post q = some (some b0) /\ b = rnB π s b0) ∨ (lk m r = some (some b) /\ ∀ q ∈ keys c.pre, rn π s q ≠ r) := by
   intro r b h
   rw [qe4, qe4] at h
   cases h5 : lk (rnM π s c.post) r with
   | some v' =>
    rw [h5] at h
    obtain ⟨q, b0, h6, h7, h8⟩ := qy0 π s hkinj h5
    cases b0 with
    | none => rw [h8] at h; simp at h
    | some b0 => rw [h8] at h; exact .inl ⟨q, b0, h6, h7, by simpa using h.symm⟩
   | none =>
    rw [h5] at h
    cases h6 : lk (dropped (rnN π s (keys c.pre))) r with
    | some v' => rw [h6] at h; obtain ⟨rfl, _⟩ := qi4 _ _ _ h6; simp at h
    | none =>
     rw [h6] at h
     have h7 := qe5 _ _ h6
     rw [qi6] at h7
     exact .inr ⟨h, fun q hq e => h7 (e ▸ List.mem_map_of_mem hq)⟩
  have hkeep : ∀ r b, lk m r = some (some b) -> (∀ q ∈ keys c.pre, rn π s q ≠ r) -> ∀ x ∈ B r, x < w.heap.size /\ Xc.G x := by
   intro r b hr hnr x hx
   have h5 := (hB.blk r b hr).lt x hx
   refine ⟨h5, h5, fun q hq hxq => ?_⟩
   obtain ⟨b', hb'⟩ := hlive q hq
   exact hB.dj _ _ b' b (hnr q hq) hb' hr x hxq hx
  have hnotnew : ∀ r b, lk m r = some (some b) -> ∀ q ∈ c.nm, rn π s q ≠ r := by
   intro r b hr q hq e
   have h5 := hfr (rn π s q) (List.mem_map_of_mem hq)
   rw [e] at h5
   have := hB.blk r b hr
   cases b with
   | box T vs => obtain ⟨g0, cur, h6, _⟩ := this; rw [h5] at h6; cases h6
   | row T k l => obtain ⟨y', h6, _⟩ := this; rw [h5] at h6; cases h6
   | pin q' x' => have h6 := this.1; rw [h5] at h6; cases h6
   | rro T k l => obtain ⟨g0, cur, h6, _⟩ := this; rw [h5] at h6; cases h6
  let Bn : Nat -> List Nat := fun r => match fnd r with | some q => B' q | none => B r
  have hBn1 : ∀ q ∈ keys c.post, Bn (rn π s q) = B' q := by
   intro q hq
   show (match fnd (rn π s q) with | some q => B' q | none => B (rn π s q)) = B' q
   rw [hfnd q (hall q hq)]
  have hBn2 : ∀ r b, lk m r = some (some b) -> (∀ q ∈ keys c.pre, rn π s q ≠ r) -> Bn r = B r := by
   intro r b hr hnr
   show (match fnd r with | some q => B' q | none => B r) = B r
   cases hf' : fnd r with
   | none => rfl
   | some q =>
    have h5 := List.find?_some hf'
    have h6 := List.mem_of_find?_eq_some hf'
    rw [List.mem_append] at h6
    rcases h6 with h6 | h6
    ·exact absurd (by simpa using h5) (hnr q h6)
    ·exact absurd (by simpa using h5) (hnotnew r b hr q h6)
  have hnG : ∀ q b0, lk c.post q = some (some b0) -> ∀ x ∈ B' q, ¬ X.G x := by
   intro q b0 hq x hx hg
   have h5 := hB'.nf q b0 hq x hx
   apply h5
   refine ⟨hW.lt x hg, fun q' hq' hx' => ?_⟩
   obtain ⟨b', hb'⟩ := hlive q' hq'
   exact hB.nf _ b' hb' x hx' hg
  refine ⟨Bn, ?_, ?_, ?_, ?_⟩
  ·intro r b h
   rcases hent r b h with ⟨q, b0, rfl, h7, rfl⟩ | ⟨h5, h6⟩
   ·rw [hBn1 q (qbk h7)]
    have h8 := hB'.blk q b0 h7
    cases b0 with
    | box T vs =>
     obtain ⟨g0, cur, k1, k2, k3, k4⟩ := h8
     refine ⟨g0, cur, (hat q (hall q (qbk h7))).trans k1, k2, k3, qi9 K ?_ k4⟩
     rcases hro with hro | hro
     ·exact .inl (hro1 hro)
     ·exact .inr (qrl hro.2 h7)
    | row T k l =>
     obtain ⟨y, k1, k2⟩ := h8
     exact ⟨y, (hat q (hall q (qbk h7))).trans k1, k2⟩
    | pin q' x' =>
     exact ⟨(hat q (hall q (qbk h7))).trans h8.1, (K.env _ (K.nm _ _ h8.2.1)).trans h8.2.1, h8.2.2⟩
    | rro T k l =>
     obtain ⟨g0, cur, k1, k2, k3, k4, k5, k6, k7⟩ := h8
     refine ⟨g0, cur, (hat q (hall q (qbk h7))).trans k1, k2, k3, k4, k5, k6, ?_⟩
     rcases hro with hro | hro
     ·exact hro1 hro _ _ k7
     ·exact (qrm hro.2 h7).elim
   ·rw [hBn2 r b h5 h6]
    exact (hB.blk r b h5).same hEx (fun x hx => hW'.frz x (hkeep r b h5 h6 x hx).2 (fun hh => hB.nf r b h5 x hx (X.hPG x (X.hHP x hh))))
  ·intro r b h
   rcases hent r b h with ⟨q, b0, rfl, h7, rfl⟩ | ⟨h5, h6⟩
   ·rw [hBn1 q (qbk h7)]; exact hB'.nd q b0 h7
   ·rw [hBn2 r b h5 h6]; exact hB.nd r b h5
  ·intro r b h
   rcases hent r b h with ⟨q, b0, rfl, h7, rfl⟩ | ⟨h5, h6⟩
   ·rw [hBn1 q (qbk h7)]; exact hnG q b0 h7
   ·rw [hBn2 r b h5 h6]; exact hB.nf r b h5
  ·intro r r' b b' hne h h'
   rcases hent r b h with ⟨q, b0, rfl, h7, rfl⟩ | ⟨h5, h6⟩
   ·rcases hent r' b' h' with ⟨q', b0', rfl, h7', rfl⟩ | ⟨h5', h6'⟩
    ·rw [hBn1 q (qbk h7), hBn1 q' (qbk h7')]
     exact hB'.dj q q' b0 b0' (fun e => hne (by rw [e])) h7 h7'
    ·rw [hBn1 q (qbk h7), hBn2 r' b' h5' h6']
     intro x hx hx'
     exact hB'.nf q b0 h7 x hx (hkeep r' b' h5' h6' x hx').2
   ·rcases hent r' b' h' with ⟨q', b0', rfl, h7', rfl⟩ | ⟨h5', h6'⟩
    ·rw [hBn2 r b h5 h6, hBn1 q' (qbk h7')]
     intro x hx hx'
     exact hB'.nf q' b0' h7' x hx' (hkeep r b h5 h6 x hx).2
    ·rw [hBn2 r b h5 h6, hBn2 r' b' h5' h6']
     exact hB.dj r r' b b' hne h5 h5'
theorem qw7 {c : CFD} {π : List (Nat × Nat)} {s : Nat} {vs : List SV} {o2 o3 : List Prop} {ros : List Nat} {xs : List Value} (h2 : mSs (keys c.pre) π s m c.args vs = some (o2, ros)) (ho2 : All o2) (h3 : mPre (keys c.pre) π s m c.pre = some o3) (ho3 : All o3)
  (hn1 : qd3 (app (rnN π s (keys c.pre)) (rnN π s c.nm)) = true) (hin : allIn (keys c.post) (app (keys c.pre) c.nm) = true) (hd : disj ros (rnN π s (keys c.pre)) = true) (hro : ros = [] ∨ (qom c.res = true /\ qiw c.post = true)) (hf : Fn P c) (hgl : qc8 (GlX X) c.gl)
  (hfr : ∀ r ∈ rnN π s c.nm, ρ r = none) (hx : qa9 X ρ vs xs) (hM : MRel X ρ w m) (hW : WRel X w) :
  Co.qhg P X.H X.Pt c.f xs.toArray w (fun e w' => ∃ v ρn, e = .returned v /\ TRel X ρn (rnT π s c.res) v /\ Ext ρ ρn /\ (∀ r y, ρn r = some y -> ρ r = some y ∨ r ∈ rnN π s c.nm) /\ MRel X ρn w' (app (app (rnM π s c.post) (dropped (rnN π s (keys c.pre)))) m) /\ WRel X w') :=
 qnh (T := fun R => Co.qhg P X.H X.Pt c.f xs.toArray w R) (fun _ _ h hc => hc.mono h) h2 ho2 h3 ho3 hn1 hin hd hro (fun Xc ρc e1 e2 e3 e4 q1 q2 q3 q4 => by
  have := hf.fn Xc ρc xs e4 q1 q2 q3 q4
  rw [e1, e2, e3] at this
  exact this) hgl hfr hx hM hW
end
section
variable {P : Program} {X : Cx} {ρ : Env} {w : World} {m : ML} {tt : TT} {t : TL} {n : Nat} {a : Act} {g : Option Bool}
theorem qef {ok : Ok} (hok : OkS P X ok) {o : Oper} {s : Nat} {c : CFD} {vs : List SV} {o1 : List Prop} {π : List (Nat × Nat)} (hx : All o1 -> ∃ xs, qa9 X ρ vs xs /\ (Fn P c -> ∀ w, (execOp a.eval o).run P w = .ok (.enter c.f xs.toArray) w /\ (¬ Co.Lone -> (execOp a.eval o).events P w #[] = #[]))) {e : Eff} (he : qa5 ok o1 vs m s g c π = some e) (hob : All e.ob) (hg : GT g) (hs : ∀ r ∈ e.al, ρ r = none) (hM : MRel X ρ w m) (hW : WRel X w) :
  Does P X ρ w m e.al o a e.v e.wr := by
 unfold qa5 at he
 split at he
 ·rename_i o2 ros o3 h2 h3
  split at he
  ·rename_i hn1 hin hd
   split at he
   ·rename_i hro
    have hro' : ros = [] ∨ (qom c.res = true /\ qiw c.post = true) := by
     cases ros with
     | nil => exact .inl rfl
     | cons r l =>
      simp only [isNil] at hro
      split at hro
      ·rename_i h1; exact .inr ⟨h1, hro⟩
      ·cases hro
    have core : ∀ {al : List Nat} {v : Option TV} {wr : ML}, All o1 -> All o2 -> All o3 -> (ok.fn c /\ qc8 ok.gl c.gl) -> (∀ r ∈ rnN π s c.nm, ρ r = none) -> al = rnN π s c.nm -> wr = app (rnM π s c.post) (dropped (rnN π s (keys c.pre))) -> (∀ ρ' x, TRel X ρ' (rnT π s c.res) x -> ∀ tv, v = some tv -> TRel X ρ' tv x) -> Does P X ρ w m al o a v wr := by
     intro al v wr k1 k2 k3 k4 k5 hal hwr kv K hK
     subst hal hwr
     obtain ⟨xs, hxs, hrun⟩ := hx k1
     have k4' := hok.fn c k4.1
     refine Co.qyq (fun w₁ h₁ => hrun k4' w₁) (fun w₁ h₁ => ?_)
     refine (qw7 h2 k2 h3 k3 hn1 hin hd hro' k4' (qfn hok.gl k4.2) k5 hxs (hM.aside h₁) (hW.aside h₁)).mono ?_
     rintro v0 w' ⟨x, ρn, e0, q1, q2, q3, q4, q5⟩
     exact ⟨x, e0, hK x w' ρn (kv ρn x q1) q2 q3 q4 q5⟩
    split at he
    ·obtain rfl := Option.some.inj he
     rw [qy, qy, qy] at hob
     exact core hob.1 hob.2.1 hob.2.2.1 ⟨hob.2.2.2.1, hob.2.2.2.2.1⟩ hs rfl rfl (fun ρ' x h tv htv => by cases htv; exact h)
    ·rename_i b hpre hnm hpost
     split at he
     ·rename_i v hw
      obtain rfl := Option.some.inj he
      rw [qy] at hob
      have hob2 := qci hob.2 hg
      rw [qy] at hob2
      have e1 : c.pre = [] := by cases hp : c.pre with | nil => rfl | cons _ _ => rw [hp] at hpre; cases hpre
      have e2 : c.nm = [] := by cases hp : c.nm with | nil => rfl | cons _ _ => rw [hp] at hnm; cases hnm
      have e3 : c.post = [] := by cases hp : c.post with | nil => rfl | cons _ _ => rw [hp] at hpost; cases hpost
      have h3' : All o3 := by
       have h3' := h3
       rw [e1] at h3'
       obtain rfl : [] = o3 := Option.some.inj h3'
       trivial
      refine core hob.1 hob2.1 h3' ⟨hob2.2.1, hob2.2.2.1⟩ (by rw [e2]; intro r hr; cases hr) (by rw [e2]; rfl) (by rw [e1, e3]; rfl) (fun ρ' x h tv htv => ?_)
      cases hrt : rnT π s c.res with
      | sv sv' =>
       rw [hrt] at hw h
       simp [qu6] at hw
       subst hw
       cases htv
       exact ⟨fun _ => h, fun hb => by rw [hg b rfl] at hb; cases hb⟩
      | tup l => rw [hrt] at hw; simp [qu6] at hw
      | gd b' s' => rw [hrt] at hw; simp [qu6] at hw
     ·cases he
    ·cases he
   ·cases he
  ·cases he
 ·cases he
theorem qln {o : Oper} {cl : Call} {c : CFD} (ho : o.op = .call cl) (hc : cl.callee = .value (.func c.f)) (hf : Fn P c) (w : World) : (execOp a.eval o).run P w = .ok (.enter c.f (cl.args.toList.map a.eval).toArray) w /\ (¬ Co.Lone -> (execOp a.eval o).events P w #[] = #[]) := by
 have hev : a.eval (.func c.f) = .func (.func c.f) #[] #[] := rfl
 have harr : (cl.args.toList.map a.eval).toArray = cl.args.map a.eval := by rw [← Array.toList_inj]; simp
 have e : execOp a.eval o = callFunc c.f (cl.args.map a.eval) := by simp [execOp, ho, resolve, hc, hev, Deferred.ofValue, invoke]
 rw [harr, e]
 exact ⟨hf.call _ w, fun h => hf.ev h _ w⟩
theorem qtn {c : CFD} {nm : String} {T : Nat} {v : Value} {as0 : Array Value} (hm : Mt P T nm c.f) (hf : Fn P c) (w : World) : (invoke (.fn (.method nm) #[]) (#[.iface T v] ++ as0)).run P w = .ok (.enter c.f (#[v] ++ as0)) w /\ (¬ Co.Lone -> (invoke (.fn (.method nm) #[]) (#[.iface T v] ++ as0)).events P w #[] = #[]) := by
 have hx0 : (#[Value.iface T v] ++ as0)[0]? = some (.iface T v) := by rw [Array.getElem?_append_left (by simp)]; rfl
 have hx1 : (#[Value.iface T v] ++ as0).extract 1 (#[Value.iface T v] ++ as0).size = as0 := by
  rw [← Array.toList_inj]
  simp [List.take_of_length_le]
 have h1 := hm.run v w
 have h2 := hm.ev v w
 unfold invoke
 simp only [hx0, hx1, callMethod]
 constructor
 ·simp [h1, hf.call]
 ·intro hl
  simp only [Sem.events_bind, run_program, Result.evThen_ok, events_program, h1, h2, hf.ev hl]
theorem qp7 {o : Oper} {cl : Call} {c : CFD} {x : Operand} {nm : String} {T : Nat} {v : Value} (ho : o.op = .call cl) (hc : cl.callee = .invoke x nm) (hv : a.eval x = .iface T v) (hm : Mt P T nm c.f) (hf : Fn P c) (w : World) :
  (execOp a.eval o).run P w = .ok (.enter c.f (v :: cl.args.toList.map a.eval).toArray) w /\ (¬ Co.Lone -> (execOp a.eval o).events P w #[] = #[]) := by
 have harr : (v :: cl.args.toList.map a.eval).toArray = #[v] ++ cl.args.map a.eval := by rw [← Array.toList_inj]; simp
 have := qtn (P := P) (v := v) (as0 := cl.args.map a.eval) hm hf w
 rw [harr]
 simp only [execOp, ho, resolve, hc, hv, pure_bind]
 exact this
theorem qp8 {sv : SV} {T : Nat} {u : SV} {x : Value} (h : qm4 sv = some (T, u)) (hx : SRel X ρ sv x) : ∃ v, x = .iface T v /\ SRel X ρ u v := by
 unfold qm4 at h
 split at h
 ·simp at h; obtain ⟨rfl, rfl⟩ := h
  obtain ⟨vs, rfl, h1, h2⟩ := hx
  exact ⟨_, rfl, vs, rfl, qk1 h1 h2⟩
 ·split at h
  ·rename_i ho
   simp at h; obtain ⟨rfl, rfl⟩ := h
   obtain ⟨rfl, _⟩ := hx
   exact ⟨_, rfl, rfl, by rw [← qjp]; exact ho⟩
  ·cases h
 ·cases h
theorem qw8 {ok : Ok} (hok : OkS P X ok) {o : Oper} {cl : Call} {f s : Nat} {inp : Inp} (ho : o.op = .call cl) (hc : cl.callee = .value (.func f)) {e : Eff} (he : qgv ok t m s g inp f cl.args.toList = some e) (hob : All e.ob) (hg : GT g) (hs : ∀ r ∈ e.al, ρ r = none) (hA : ARel X ρ n t a) (hM : MRel X ρ w m) (hW : WRel X w) :
  Does P X ρ w m e.al o a e.v e.wr := by
 unfold qgv at he
 split at he
 ·rename_i c
  split at he
  ·rename_i vs o1 hf hv
   have : c.f = f := by rw [← Nat.beq_eq]; exact hf
   subst this
   exact qef hok (fun k1 => ⟨_, qcv hg hA hv k1, qln ho hc⟩) he hob hg hs hM hW
  ·cases he
 ·rename_i c
  split at he
  ·rename_i vs o1 hf hv
   have : c.f = f := by rw [← Nat.beq_eq]; exact hf
   subst this
   exact qef (g := none) hok (fun k1 => ⟨_, qcv hg hA hv k1, qln ho hc⟩) he hob (fun _ h => by cases h) hs hM hW
  ·cases he
 ·split at he
  ·rename_i b
   obtain rfl := Option.some.inj he
   have h1 : b = false := hob.1
   have h2 : b = true := hg b rfl
   rw [h1] at h2; cases h2
  ·cases he
 ·cases he
theorem qy3 {ok : Ok} (hok : OkS P X ok) {o : Oper} {cl : Call} {x : Operand} {nm : String} {s : Nat} {inp : Inp} (ho : o.op = .call cl) (hc : cl.callee = .invoke x nm) {e : Eff} (he : qyu ok t m s g inp x nm cl.args.toList = some e) (hob : All e.ob) (hg : GT g) (hs : ∀ r ∈ e.al, ρ r = none) (hA : ARel X ρ n t a) (hM : MRel X ρ w m) (hW : WRel X w) :
  Does P X ρ w m e.al o a e.v e.wr := by
 have ent : ∀ {c : CFD} {v u : SV} {T : Nat} {vs : List SV} {o1 o2 : List Prop}, opd t g x = some (v, o1) -> qbm t g cl.args.toList = some (vs, o2) -> qm4 v = some (T, u) -> All (app o1 (app o2 [ok.mt T nm c.f])) -> ∃ xs, qa9 X ρ (u :: vs) xs /\ (Fn P c -> ∀ w, (execOp a.eval o).run P w = .ok (.enter c.f xs.toArray) w /\ (¬ Co.Lone -> (execOp a.eval o).events P w #[] = #[])) := by
  intro c v u T vs o1 o2 h1 h2 h3 h4
  rw [qy, qy] at h4
  obtain ⟨y, h5, h6⟩ := qp8 h3 (qw h1 h4.1 hg hA)
  exact ⟨y :: cl.args.toList.map a.eval, ⟨h6, qcv hg hA h2 h4.2.1⟩, qp7 ho hc h5 (hok.mt _ _ _ h4.2.2.1)⟩
 unfold qyu at he
 split at he
 ·rename_i c
  split at he
  ·rename_i v o1 vs o2 h1 h2
   split at he
   ·rename_i T u h3
    exact qef hok (ent h1 h2 h3) he hob hg hs hM hW
   ·cases he
  ·cases he
 ·rename_i c
  split at he
  ·rename_i v o1 vs o2 h1 h2
   split at he
   ·rename_i T u h3
    exact qef (g := none) hok (ent h1 h2 h3) he hob (fun _ h => by cases h) hs hM hW
   ·cases he
  ·cases he
 ·split at he
  ·rename_i b
   obtain rfl := Option.some.inj he
   have h1 : b = false := hob.1
   have h2 : b = true := hg b rfl
   rw [h1] at h2; cases h2
  ·cases he
 ·cases he
theorem qja : ∀ {cs : List (Option (Nat × Nat))} {vs : List Value}, qct ρ cs vs -> qa9 X ρ (yx cs) vs
 | [], [], _ => trivial
 | none :: _, _ :: _, h => ⟨⟨h.1, by rfl⟩, qja h.2⟩
 | some _ :: _, _ :: _, h => ⟨h.1, qja h.2⟩
 | [], _ :: _, h => h.elim
 | none :: _, [], h => h.elim
 | some _ :: _, [], h => h.elim
theorem qp9 {sv : SV} {f : Nat} {us : List SV} {x : Value} (h : qm6 sv = some (f, us)) (hx : SRel X ρ sv x) : ∃ vs : Array Value, x = .func (.func f) #[] vs /\ qa9 X ρ us vs.toList := by
 unfold qm6 at h
 split at h
 ·simp at h; obtain ⟨rfl, rfl⟩ := h
  obtain ⟨rfl, _⟩ := hx
  exact ⟨#[], rfl, trivial⟩
 ·simp at h; obtain ⟨rfl, rfl⟩ := h
  obtain ⟨vs, h1, h2⟩ := hx
  exact ⟨vs, h1, qja h2⟩
 ·cases h
theorem qa9.append {l1 l2 : List SV} : ∀ {vs1 vs2 : List Value}, qa9 X ρ l1 vs1 -> qa9 X ρ l2 vs2 -> qa9 X ρ (app l1 l2) (vs1 ++ vs2) := by
 induction l1 with
 | nil => intro vs1 vs2 h1 h2; cases vs1 with | nil => exact h2 | cons _ _ => exact h1.elim
 | cons c l ih =>
  intro vs1 vs2 h1 h2
  cases vs1 with
  | nil => exact h1.elim
  | cons v vs => exact ⟨h1.1, ih h1.2 h2⟩
theorem qw9 {o : Oper} {cl : Call} {c : CFD} {x : Operand} {vs : Array Value} (ho : o.op = .call cl) (hc : cl.callee = .value x) (hv : a.eval x = .func (.func c.f) #[] vs) (hf : Fn P c) (w : World) : (execOp a.eval o).run P w = .ok (.enter c.f (cl.args.toList.map a.eval ++ vs.toList).toArray) w /\ (¬ Co.Lone -> (execOp a.eval o).events P w #[] = #[]) := by
 have harr : (cl.args.toList.map a.eval ++ vs.toList).toArray = cl.args.map a.eval ++ vs := by rw [← Array.toList_inj]; simp
 have e : execOp a.eval o = callFunc c.f (cl.args.map a.eval ++ vs) := by simp [execOp, ho, resolve, hc, hv, Deferred.ofValue, invoke]
 rw [harr, e]
 exact ⟨hf.call _ w, fun h => hf.ev h _ w⟩
theorem qy4 {ok : Ok} (hok : OkS P X ok) {o : Oper} {cl : Call} {x : Operand} {s : Nat} {inp : Inp} (ho : o.op = .call cl) (hc : cl.callee = .value x) {e : Eff} (he : qyw ok t m s g inp x cl.args.toList = some e) (hob : All e.ob) (hg : GT g) (hs : ∀ r ∈ e.al, ρ r = none) (hA : ARel X ρ n t a) (hM : MRel X ρ w m) (hW : WRel X w) :
  Does P X ρ w m e.al o a e.v e.wr := by
 have ent : ∀ {c : CFD} {v : SV} {f : Nat} {us vs : List SV} {o1 o2 : List Prop}, opd t g x = some (v, o1) -> qbm t g cl.args.toList = some (vs, o2) -> qm6 v = some (f, us) -> Nat.beq c.f f = true -> All (app o1 o2) -> ∃ xs, qa9 X ρ (app vs us) xs /\ (Fn P c -> ∀ w, (execOp a.eval o).run P w = .ok (.enter c.f xs.toArray) w /\ (¬ Co.Lone -> (execOp a.eval o).events P w #[] = #[])) := by
  intro c v f us vs o1 o2 h1 h2 h3 h4 h5
  rw [qy] at h5
  have : c.f = f := by rw [← Nat.beq_eq]; exact h4
  subst this
  obtain ⟨ys, h6, h7⟩ := qp9 h3 (qw h1 h5.1 hg hA)
  exact ⟨_, qa9.append (qcv hg hA h2 h5.2) h7, qw9 ho hc h6⟩
 unfold qyw at he
 split at he
 ·rename_i c
  split at he
  ·rename_i v o1 vs o2 h1 h2
   split at he
   ·rename_i f us h3
    split at he
    ·rename_i h4
     exact qef hok (ent h1 h2 h3 h4) he hob hg hs hM hW
    ·cases he
   ·cases he
  ·cases he
 ·rename_i c
  split at he
  ·rename_i v o1 vs o2 h1 h2
   split at he
   ·rename_i f us h3
    split at he
    ·rename_i h4
     exact qef (g := none) hok (ent h1 h2 h3 h4) he hob (fun _ h => by cases h) hs hM hW
    ·cases he
   ·cases he
  ·cases he
 ·split at he
  ·rename_i b
   obtain rfl := Option.some.inj he
   have h1 : b = false := hob.1
   have h2 : b = true := hg b rfl
   rw [h1] at h2; cases h2
  ·cases he
 ·cases he
theorem qqa (htt : TTok P tt) {ok : Ok} (hok : OkS P X ok) {o : Oper} {s : Nat} {inp : Inp} {e : Eff} (he : qbn tt ok t m s g inp o.op = some e) (hob : All e.ob) (hg : GT g) (hs : ∀ r ∈ e.al, ρ r = none) (hA : ARel X ρ n t a) (hM : MRel X ρ w m) (hW : WRel X w) :
  Does P X ρ w m e.al o a e.v e.wr := by
 cases hc : qf5 o.op with
 | false => exact qvc hW fun w₁ h₁ => ⟨q2t htt hok.gl he hc hob hg hs hA (hM.aside h₁) (hW.aside h₁), q2v htt he hc hob hg hA (hM.aside h₁)⟩
 | true =>
  cases hop : o.op <;> rw [hop] at hc <;> try (cases hc; done)
  rename_i cl
  cases hcal : cl.callee <;> simp [qf5, hcal] at hc
  ·rename_i fo
   rw [hop] at he
   simp only [qbn, hcal] at he
   cases fo <;> simp only at he <;> try (cases he; done)
   ·exact qy4 hok hop hcal he hob hg hs hA hM hW
   ·exact qw8 hok hop hcal he hob hg hs hA hM hW
  ·rename_i x nm
   rw [hop] at he
   simp only [qbn, hcal] at he
   exact qy3 hok hop hcal he hob hg hs hA hM hW
def qqb : Value -> Option Bool
 | .bool b => some b
 | _ => none
theorem qni {ops : List Oper} {j : Nat} {oj : Oper} {s : Nat} (hj : nth ops j = some oj) (hs : oj.dst = some s) {x : Value} (hx : a.tmps[s]? = some x) : yielded ops.toArray a.tmps j = qqb x := by
 rw [qm7] at hj
 have h1 : ops.toArray[j]? = some oj := by simpa using hj
 unfold yielded
 rw [h1, Option.bind_some, hs, Option.bind_some, hx]
 cases x <;> rfl
theorem qf6 {ops : List Oper} {g' : Option Bool} {o : Oper} (h : guardOf ops t o.guard = some g') (hA : ARel X ρ n t a) : (Region.wanted o (yielded ops.toArray a.tmps) = true -> GT g') /\ (Region.wanted o (yielded ops.toArray a.tmps) = false -> g' = some false) := by
 unfold guardOf at h
 split at h
 ·rename_i hq
  obtain rfl := Option.some.inj h
  refine ⟨fun _ _ h => (by cases h), fun hw => ?_⟩
  simp [Region.wanted, hq] at hw
 ·rename_i j want hq
  split at h
  ·rename_i oj hj
   split at h
   ·rename_i s hs
    split at h
    ·rename_i b hb
     obtain rfl := Option.some.inj h
     obtain ⟨x, hx, hr, _⟩ := hA.at_ s _ hb
     subst hr
     have hy := qni hj hs hx
     simp only [Region.wanted, hq, hy, qqb]
     refine ⟨fun hw c hc => ?_, fun hw => ?_⟩
     ·obtain rfl := Option.some.inj hc
      have : b = want := by simpa using hw
      subst this
      cases b <;> rfl
     ·cases b <;> cases want <;> first | rfl | (simp at hw)
    ·rename_i gb b hb
     obtain rfl := Option.some.inj h
     obtain ⟨x, hx, hr, hu⟩ := hA.at_ s _ hb
     have hy := qni hj hs hx
     simp only [Region.wanted, hq, hy, qqb]
     cases gb with
     | false =>
      obtain rfl := hu rfl
      refine ⟨fun hw => ?_, fun _ => rfl⟩
      simp [undef, qqb] at hw
     | true =>
      obtain ⟨rfl, _⟩ := hr rfl
      refine ⟨fun hw c hc => ?_, fun hw => ?_⟩
      ·obtain rfl := Option.some.inj hc
       have : b = want := by simpa using hw
       subst this
       cases b <;> rfl
      ·cases b <;> cases want <;> first | rfl | (simp at hw)
    ·cases h
   ·cases h
  ·cases h
end
theorem lns : (∀ {α β : Type} {f : α -> β} {l : List α}, (l.map f).length = l.length) /\ (∀ {α : Type} {l : List α} {i : Nat} {a : α}, (l.set i a).length = l.length) /\ (∀ {α : Type} {n : Nat} {a : α}, (List.replicate n a).length = n) /\ (∀ {α : Type} {a : α} {l : List α}, (a :: l).length = l.length + 1) /\ (∀ {α : Type}, ([] : List α).length = 0) /\ (∀ {α : Type} {l m : List α}, (l ++ m).length = l.length + m.length) /\ (∀ {α : Type} {i : Nat} {l : List α}, (l.take i).length = min i l.length) /\ (∀ {α : Type} (l m : List α), app l m = l ++ m) :=
 ⟨List.length_map _, List.length_set, List.length_replicate, List.length_cons, List.length_nil, List.length_append, List.length_take, qan⟩
theorem cds : (!true = false) /\ (!false = true) /\ (∀ {α : Type} {n : Nat} {a : α}, (List.replicate n a).length = n) /\ (∀ {α β : Type} {f : α -> β} {l : List α}, (l.map f).length = l.length) /\ (∀ {n : Nat}, (n : Int).toNat = n) /\ (∀ {α : Type}, (none : Option α).isNone = true) /\ (∀ {α : Type} {a : α}, (some a).isNone = false) /\ (∀ {b c : Bool}, (bif b then c else false) = (b && c)) /\ (∀ {b c : Bool}, (bif b then true else c) = (b || c)) /\ (∀ {a b : Bool}, ((a && b) = true) = (a = true /\ b = true)) /\ (∀ {a b : Bool}, ((a || b) = true) = (a = true ∨ b = true)) /\ (∀ {a b : Bool}, ((a || b) = false) ↔ (a = false /\ b = false)) /\ (∀ {a b : Bool}, ((a && b) = false) ↔ (a = false ∨ b = false)) /\ (∀ {b : Bool}, ((!b) = true) = (b = false)) /\ (∀ {b : Bool}, ((!b) = false) = (b = true)) /\ (∀ {p : Prop} [Decidable p], (decide p = true) = p) /\ (∀ {p : Prop} {h : Decidable p}, (decide p = false) ↔ ¬ p) /\ (∀ {α : Type} [BEq α] [LawfulBEq α] {a b : α}, ((a == b) = true) ↔ a = b) /\ (∀ {α : Type} [BEq α] [LawfulBEq α] {a b : α}, ((a != b) = true) ↔ a ≠ b) /\ (∀ {α : Type} [BEq α] [LawfulBEq α] {a b : α}, ((a == b) = false) ↔ a ≠ b) /\ (∀ {α : Type} [BEq α] [LawfulBEq α] {a b : α}, ((a != b) = false) ↔ a = b) /\ (∀ {a b : Int}, (¬ a < b) ↔ b <= a) /\ (∀ {a b : Int}, (¬ a <= b) ↔ b < a) /\ (∀ {a b : Int}, (a > b) ↔ b < a) /\ (∀ {a b : Int}, (a ≥ b) ↔ b <= a) /\ (∀ {α : Sort 1} {a b : α}, (a ≠ b) = ¬ a = b) :=
 ⟨rfl, rfl, List.length_replicate, List.length_map _, Int.toNat_natCast _, Option.isNone_none, Option.isNone_some, Bool.cond_false_right _ _, Bool.cond_true_left _ _, Bool.and_eq_true _ _, Bool.or_eq_true _ _, Bool.or_eq_false_iff, Bool.and_eq_false_iff, Bool.not_eq_true' _, Bool.not_eq_false' _, decide_eq_true_eq, decide_eq_false_iff_not, beq_iff_eq, bne_iff_ne, beq_eq_false_iff_ne, bne_eq_false_iff_eq, Int.not_lt, Int.not_le, gt_iff_lt, ge_iff_le, ne_eq _ _⟩
structure St where
 t : TL
 m : ML
 u : List Nat
def yg : Option Nat -> Nat
 | some s => s
 | none => 0
def putT : Option Nat -> Option TV -> TL -> TL
 | some s, some v, t => (s, v) :: t
 | _, _, t => t
def qdt (n : Nat) : Option Nat -> Option TV -> Bool
 | some s, some _ => Nat.ble (Nat.succ s) n
 | some _, none => false
 | none, _ => true
def qbo : Option Bool -> Option TV -> ML -> List Nat -> Option (List Prop)
 | none, _, _, _ => some []
 | some b, some (.gd b' _), [], [] => some [b' = b]
 | some b, _, _, _ => some [b = true]
inductive Nd where
 | no
 | yes
 | may
def needs (t : TL) (g : Option Bool) : Op -> Nd
 | .load _ x => match opd t g x with
  | some (.one (.el ..), _) => .yes
  | some (.one (.roel ..), _) => .yes
  | some (.one (.lit (.pointer _)), _) => .yes
  | _ => .no
 | .store _ x _ => match opd t g x with
  | some (.one (.el ..), _) => .yes
  | _ => .no
 | .slice _ x _ _ _ => match opd t g x with
  | some (.one (.ro ..), _) => .yes
  | some (.one (.hd _), _) => .may
  | some (.one (.lit _), _) => .may
  | _ => .no
 | .call c => match c.callee with
  | .value _ => .yes
  | .invoke .. => .yes
  | .builtin .append => match c.args.toList with
   | [_, y] => match opd t g y with
    | some (.one (.ro ..), _) => .yes
    | some (.one (.hd _), _) => .may
    | _ => .no
   | _ => .no
  | .builtin .copy => .yes
  | .builtin .clear => match c.args.toList with
   | [x] => match opd t g x with
    | some (.one (.lit _), _) => .yes
    | _ => .no
   | _ => .no
  | _ => .no
 | _ => .no
def qf0 : Nd -> List Inp -> Option (Inp × List Inp)
 | .no, l => some (.none, l)
 | .yes, i :: l => some (i, l)
 | .yes, [] => none
 | .may, .keep :: l => some (.keep, l)
 | .may, l => some (.none, l)
def qg3 (tt : TT) (ok : Ok) (all : List Oper) (n : Nat) : List Oper -> List Inp -> TL -> ML -> List Nat -> Option (TL × ML × List Nat × List Prop)
 | [], [], t, m, u => some (t, m, u, [])
 | [], _ :: _, _, _, _ => none
 | o :: l, inps, t, m, u => match guardOf all t o.guard with
  | some g => match qf0 (needs t g o.op) inps with
   | some (i, inps') => match qbn tt ok t m (yg o.dst) g i o.op with
    | some ⟨v, wr, al, _, ob⟩ => match qbo g v wr al, disj al u, qdt n o.dst v with
     | some ob1, true, true => match qg3 tt ok all n l inps' (putT o.dst v t) (app wr m) (app al u) with
      | some (t', m', u', ob2) => some (t', m', u', app ob1 (app ob ob2))
      | none => none
     | _, _, _ => none
    | none => none
   | none => none
  | none => none
structure Fr where
 X : Cx
 ρ0 : Env
 base : List Nat
 n : Nat
 hb : ∀ q y, ρ0 q = some y -> q ∈ base
def qba (F : Fr) (σ : St) (a : Act) (w : World) : Prop :=
 ∃ ρ, Ext F.ρ0 ρ /\ ARel F.X ρ F.n σ.t a /\ MRel F.X ρ w σ.m /\ (∀ r y, ρ r = some y -> r ∈ σ.u) /\ WRel F.X w
section
variable {P : Program} {F : Fr} {tt : TT} {a : Act} {w : World}
theorem ARel.put' {X : Cx} {ρ : Env} {n : Nat} {t : TL} {d : Option Nat} {v : Option TV} {x : Value} (h : ARel X ρ n t a) (hd : qdt n d v = true) (hv : ∀ tv, v = some tv -> TRel X ρ tv x) : ARel X ρ n (putT d v t) (a.put d x) := by
 cases d with
 | none => cases v <;> exact h
 | some s =>
  cases v with
  | none => cases hd
  | some tv => exact h.put (Nat.le_of_ble_eq_true hd) (hv tv rfl)
theorem qvg (htt : TTok P tt) {ok : Ok} (hok : OkS P F.X ok) {all : List Oper} {Q : Exit -> Act -> World -> Prop} : ∀ {l : List Oper} {inps : List Inp} {t t' : TL} {m m' : ML} {u u' : List Nat} {ob : List Prop} {a : Act} {w : World}, qg3 tt ok all F.n l inps t m u = some (t', m', u', ob) -> All ob -> qba F ⟨t, m, u⟩ a w →
  (∀ a' w', qba F ⟨t', m', u'⟩ a' w' -> Q .normal a' w') -> Co.qb8 P F.X.H F.X.Pt all.toArray Q l a w
 | [], [], t, t', m, m', u, u', ob, a, w, h, _, hS, hQ => by
  simp [qg3] at h
  obtain ⟨rfl, rfl, rfl, _⟩ := h
  exact hQ a w hS
 | [], _ :: _, _, _, _, _, _, _, _, _, _, h, _, _, _ => by simp [qg3] at h
 | o :: l, inps, t, t', m, m', u, u', ob, a, w, h, ho, hS, hQ => by
  unfold qg3 at h
  split at h
  ·rename_i g hg
   split at h
   ·rename_i i inps' hi
    split at h
    ·rename_i v wr al use ob0 hev
     split at h
     ·rename_i ob1 hgo hal hdst
      split at h
      ·rename_i t2 m2 u2 ob2 hrest
       simp at h
       obtain ⟨rfl, rfl, rfl, rfl⟩ := h
       rw [qy, qy] at ho
       obtain ⟨ho1, ho0, ho2⟩ := ho
       obtain ⟨ρ, hE, hA, hM, hU, hW⟩ := hS
       have hfr : ∀ r ∈ al, ρ r = none := by
        intro r hr
        cases hq : ρ r with
        | none => rfl
        | some y => exact absurd (hU r y hq) (qax hal r hr)
       obtain ⟨hw1, hw2⟩ := qf6 hg hA
       have next : ∀ x w' ρ', (∀ tv, v = some tv -> TRel F.X ρ' tv x) -> Ext ρ ρ' -> (∀ r y, ρ' r = some y -> ρ r = some y ∨ r ∈ al) -> MRel F.X ρ' w' (app wr m) -> WRel F.X w' -> Co.qb8 P F.X.H F.X.Pt all.toArray Q l (a.put o.dst x) w' := by
        intro x w' ρ' k1 k2 k3 k4 k5
        refine qvg htt hok hrest ho2 ⟨ρ', fun q y hq => k2 q y (hE q y hq), (hA.ext k2).put' hdst k1, k4, fun r y hr => ?_, k5⟩ hQ
        show r ∈ app al u
        rw [qan, List.mem_append]
        rcases k3 r y hr with h | h
        ·exact .inr (hU r y h)
        ·exact .inl h
       unfold Co.qb8
       cases hwt : Region.wanted o (yielded all.toArray a.tmps) with
       | true =>
        rw [if_pos rfl]
        exact qqa htt hok hev ho0 (hw1 hwt) hfr hA hM hW _ next
       | false =>
        rw [if_neg (by simp)]
        obtain rfl := hw2 hwt
        unfold qbo at hgo
        split at hgo
        ·rename_i h1; cases h1
        ·rename_i b b' s' h1
         obtain rfl := Option.some.inj hgo
         obtain ⟨hb', _⟩ := ho1
         have hbf : b = false := (Option.some.inj h1).symm
         refine next undef w ρ (fun tv htv => ?_) (Ext.refl ρ) (fun _ _ h => .inl h) hM hW
         obtain rfl := Option.some.inj htv
         exact ⟨(fun h => by rw [hb', hbf] at h; cases h), fun _ => rfl⟩
        ·rename_i b h1 _
         obtain rfl := Option.some.inj hgo
         have h2 : b = true := ho1.1
         have h3 : b = false := (Option.some.inj h1).symm
         rw [h2] at h3; cases h3
      ·cases h
     ·cases h
    ·cases h
   ·cases h
  ·cases h
inductive It where
 | code (c : Code)
 | blk (id : Nat)
 | scp
 | until (G : St -> Prop)
def kont (P : Program) (F : Fr) (R : St -> Prop) : List It -> Exit -> Act -> World -> Prop
 | [], e, a, w => match e with
  | .ret => ∃ σ, R σ /\ qba F σ a w
  | .normal => ∃ σ, R σ /\ qba F σ a w
  | _ => False
 | .code c :: k, e, a, w => match e with
  | .normal => Co.wpK P F.X.H F.X.Pt c (kont P F R k) a w
  | e => kont P F R k e a w
 | .blk id :: k, e, a, w => match e with
  | .exit id' => if id' = id then kont P F R k .normal a w else kont P F R k (.exit id') a w
  | e => kont P F R k e a w
 | .scp :: k, e, a, w => match e with
  | .goto _ => False
  | e => kont P F R k e a w
 | .until G :: k, e, a, w => match e with
  | .normal => ∃ σ, G σ /\ qba F σ a w
  | e => kont P F R k e a w
def AR (P : Program) (F : Fr) (R : St -> Prop) (k : List It) (σ : St) : Prop := ∀ a w, qba F σ a w -> kont P F R k .normal a w
variable {R : St -> Prop} {k : List It} {σ : St}
theorem q7s {x y : Code} (h : AR P F R (.code x :: .code y :: k) σ) : AR P F R (.code (.seq x y) :: k) σ := by
 intro a w hS
 refine Co.q2q (Co.qfh (h a w hS) ?_)
 intro e a' w' hq
 cases e <;> exact hq
theorem qy5 {id : Nat} {c : Code} (h : AR P F R (.code c :: .blk id :: k) σ) : AR P F R (.code (.block id c) :: k) σ := by
 intro a w hS
 refine Co.qwr (Co.qfh (h a w hS) ?_)
 intro e a' w' hq
 cases e <;> exact hq
theorem qy6 {c : Code} (h : AR P F R (.code c :: .scp :: k) σ) : AR P F R (.code (.scope c) :: k) σ := by
 intro a w hS
 refine Co.qws (Co.qfh (h a w hS) ?_)
 intro e a' w' hq
 cases e <;> exact hq
theorem qj (h : AR P F R k σ) : AR P F R k σ := h
theorem q7t {id : Nat} (h : AR P F R k σ) : AR P F R (.blk id :: k) σ := h
theorem q7u (h : AR P F R k σ) : AR P F R (.scp :: k) σ := h
theorem q2w (h : AR P F R k σ) : AR P F R (.code .skip :: k) σ := fun a w hS => Co.qyl (h a w hS)
theorem qy7 {l : Nat} (h : AR P F R k σ) : AR P F R (.code (.label l) :: k) σ := fun a w hS => Co.qwq (h a w hS)
def qnj (id : Nat) : List It -> Option (List It)
 | [] => none
 | .blk id' :: k => match Nat.beq id id' with
  | true => some k
  | false => qnj id k
 | .code _ :: k => qnj id k
 | .scp :: k => qnj id k
 | .until _ :: k => qnj id k
theorem qgg {id : Nat} : ∀ {k k' : List It}, qnj id k = some k' -> kont P F R k' .normal a w -> kont P F R k (.exit id) a w
 | [], _, h, _ => by cases h
 | .blk id' :: k, k', h, hk => by
  unfold qnj at h
  split at h
  ·rename_i hb
   obtain rfl := Option.some.inj h
   have : id = id' := by rw [← Nat.beq_eq]; exact hb
   show if id = id' then _ else _
   rw [if_pos this]; exact hk
  ·rename_i hb
   have : ¬ id = id' := by intro e; subst e; simp at hb
   show if id = id' then _ else _
   rw [if_neg this]; exact qgg h hk
 | .code _ :: k, k', h, hk => qgg (k := k) h hk
 | .scp :: k, k', h, hk => qgg (k := k) h hk
 | .until _ :: k, k', h, hk => qgg (k := k) h hk
theorem q2x {id : Nat} {k' : List It} (he : qnj id k = some k') (h : AR P F R k' σ) : AR P F R (.code (.exit id) :: k) σ := fun a w hS => Co.qym (qgg he (h a w hS))
theorem qhu (h : ∃ σ, R σ /\ qba F σ a w) : ∀ k : List It, kont P F R k .ret a w
 | [] => h
 | .blk _ :: k => qhu h k
 | .code _ :: k => qhu h k
 | .scp :: k => qhu h k
 | .until _ :: k => qhu h k
theorem q7v (h : R σ) : AR P F R (.code .ret :: k) σ := fun a w hS => Co.q2p (qhu ⟨σ, h, hS⟩ k)
theorem q7w (h : R σ) : AR P F R [] σ := fun a w hS => ⟨σ, h, hS⟩
theorem qi {G : St -> Prop} (h : G σ) : AR P F R (.until G :: k) σ := fun a w hS => ⟨σ, h, hS⟩
theorem ql {c : Operand} {x y : Code} {b : Bool} {ob : List Prop} (hc : opd σ.t none c = some (.one (.lit (.bool b)), ob)) (ho : All ob) (h1 : b = true -> AR P F R (.code x :: k) σ) (h2 : b = false -> AR P F R (.code y :: k) σ) : AR P F R (.code (.cond c x y) :: k) σ := by
 intro a w hS
 have hS' := hS
 obtain ⟨ρ, hE, hA, hM, hU, hW⟩ := hS
 have hb := (qw hc ho (fun _ h => by cases h) hA).1
 exact Co.qmy hb (fun e => h1 e a w hS') (fun e => h2 e a w hS')
theorem qc (htt : TTok P tt) {id : Nat} {ops : List Oper} {inps : List Inp} {t t' : TL} {m m' : ML} {u u' : List Nat} {ob : List Prop} (he : qg3 tt (okX P F.X) ops F.n ops inps t m u = some (t', m', u', ob)) (ho : All ob) (h : AR P F R k ⟨t', m', u'⟩) : AR P F R (.code (.region id ⟨ops⟩ false) :: k) ⟨t, m, u⟩ := by
 intro a w hS
 refine Co.qmz (qvg htt (qtm P F.X) he ho hS (fun a' w' hS' => ?_))
 exact h a' w' hS'
structure Wk (F : Fr) (σ0 σ : St) (f : Nat -> Nat) : Prop where
 env : ∀ ρ a w, Ext F.ρ0 ρ -> ARel F.X ρ F.n σ.t a -> MRel F.X ρ w σ.m -> Ext F.ρ0 (fun q => if q ∈ σ0.u then ρ (f q) else none) /\ ARel F.X (fun q => if q ∈ σ0.u then ρ (f q) else none) F.n σ0.t a /\ MRel F.X (fun q => if q ∈ σ0.u then ρ (f q) else none) w σ0.m
theorem Wk.st {σ0 σ : St} {f : Nat -> Nat} (h : Wk F σ0 σ f) (hS : qba F σ a w) : qba F σ0 a w := by
 obtain ⟨ρ, hE, hA, hM, hU, hW⟩ := hS
 obtain ⟨h1, h2, h3⟩ := h.env ρ a w hE hA hM
 refine ⟨_, h1, h2, h3, fun r y hr => ?_, hW⟩
 by_cases e : r ∈ σ0.u
 ·exact e
 ·simp only [if_neg e] at hr; cases hr
theorem q2y {c : Code} (I : Nat -> St -> Prop) (i0 : Nat) {σ0 : St} {f0 : Nat -> Nat} (hw : Wk F σ0 σ f0) (h0 : I i0 σ0)
  (hr : ∀ i σ, I i σ -> AR P F R (.code c :: .until (fun σ' => ∃ i' σ1 f1, i' < i /\ I i' σ1 /\ Wk F σ1 σ' f1) :: k) σ) : AR P F R (.code (.loop c) :: k) σ := by
 intro a w hS
 refine Co.qyn (fun i a w => ∃ σ, I i σ /\ qba F σ a w) i0 ⟨σ0, h0, hw.st hS⟩ ?_
 rintro i a w ⟨σ, hI, hS⟩
 refine Co.qfh (hr i σ hI a w hS) ?_
 intro e a' w' hq
 cases e with
 | normal =>
  obtain ⟨σ', ⟨i', σ1, f1, h1, h2, h3⟩, hS'⟩ := hq
  exact ⟨i', h1, σ1, h2, h3.st hS'⟩
 | exit id => exact hq
 | goto l => exact hq
 | ret => exact hq
 | panic ch => exact hq
 | outgrown => exact hq
end
def qlo (u : List Nat) : List (Option (Nat × Nat)) -> Bool
 | [] => true
 | none :: l => qlo u l
 | some (r, _) :: l => match hasN u r with | true => qlo u l | false => false
def okC (u : List Nat) : CV -> Bool
 | .fn _ cs => qlo u cs
 | .hd r => hasN u r
 | .box r _ => hasN u r
 | .el r _ _ _ => hasN u r
 | .part r _ _ _ => hasN u r
 | _ => true
def okCs (u : List Nat) : List CV -> Bool
 | [] => true
 | c :: l => match okC u c with | true => okCs u l | false => false
def okS (u : List Nat) : SV -> Bool
 | .one c => okC u c
 | .agg l => okCs u l
def okSs (u : List Nat) : List SV -> Bool
 | [] => true
 | c :: l => match okS u c with | true => okSs u l | false => false
def okT (u : List Nat) : TV -> Bool
 | .sv s => okS u s
 | .tup l => okSs u l
 | .gd _ s => okS u s
def okB (u : List Nat) : Option Blk -> Bool
 | some (.box _ vs) => okCs u vs
 | some (.row ..) => true
 | some (.pin q _) => hasN u q
 | some (.rro ..) => true
 | none => true
def okTL (u : List Nat) : TL -> Bool
 | [] => true
 | (_, v) :: l => match okT u v with | true => okTL u l | false => false
def okML (u : List Nat) : ML -> Bool
 | [] => true
 | (q, b) :: l => match hasN u q, okB u b with | true, true => okML u l | _, _ => false
def subT (π : List (Nat × Nat)) (t : TL) : TL -> List Prop
 | [] => []
 | (s, v) :: l => (lk t s = some (rnT π 0 v)) :: subT π t l
def subM (π : List (Nat × Nat)) (m : ML) : ML -> List Prop
 | [] => []
 | (q, some b) :: l => (lk m (rn π 0 q) = some (some (rnB π 0 b))) :: subM π m l
 | (_, none) :: l => subM π m l
def fixed (π : List (Nat × Nat)) : List Nat -> Bool
 | [] => true
 | q :: l => match Nat.beq (rn π 0 q) q with | true => fixed π l | false => false
def under (π : List (Nat × Nat)) (u : List Nat) (ρ : Env) : Env := fun q => if q ∈ u then ρ (rn π 0 q) else none
theorem qde {π : List (Nat × Nat)} {u : List Nat} {ρ : Env} {q : Nat} (h : hasN u q = true) : under π u ρ q = ρ (rn π 0 q) := if_pos ((qcu _ _).1 h)
section
variable {X : Cx} {ρ : Env} {π : List (Nat × Nat)} {u : List Nat} {w : World}
theorem qy8 : ∀ {l : List (Option (Nat × Nat))} {vs : List Value}, qct ρ (zx π 0 l) vs -> qlo u l = true -> qct (under π u ρ) l vs
 | [], [], _, _ => trivial
 | none :: _, _ :: _, h, hc => ⟨h.1, qy8 h.2 hc⟩
 | some (r, j) :: l, v :: vs, h, hc => by
  unfold qlo at hc
  split at hc
  ·rename_i h1
   obtain ⟨⟨g, h2, h3⟩, h4⟩ := h
   exact ⟨⟨g, (qde h1).trans h2, h3⟩, qy8 h4 hc⟩
  ·cases hc
 | [], _ :: _, h, _ => h.elim
 | none :: _, [], h, _ => h.elim
 | some _ :: _, [], h, _ => h.elim
theorem unC {c : CV} {x : Value} (h : CRel X ρ (rnC π 0 c) x) (hc : okC u c = true) : CRel X (under π u ρ) c x := by
 cases c with
 | lit v => exact h
 | ro T k n d => exact h
 | hd r => exact ⟨(qde hc).trans h.1, h.2⟩
 | box r j => obtain ⟨g, h1, h2⟩ := h; exact ⟨g, (qde hc).trans h1, h2⟩
 | el r k i j => obtain ⟨g, o, n, cap, h1, h2⟩ := h; exact ⟨g, o, n, cap, (qde hc).trans h1, h2⟩
 | roel T k n d i j => exact h
 | ifro T d => exact h
 | fn f cs => obtain ⟨vs, h1, h2⟩ := h; exact ⟨vs, h1, qy8 h2 hc⟩
 | part r k a n => obtain ⟨A, len, cap, h1, h2⟩ := h; exact ⟨A, len, cap, (qde hc).trans h1, h2⟩
theorem unCs : ∀ {l : List CV} {vs : List Value}, qaj X ρ (rnCs π 0 l) vs -> okCs u l = true -> qaj X (under π u ρ) l vs
 | [], [], _, _ => trivial
 | c :: l, v :: vs, h, hc => by
  unfold okCs at hc
  split at hc
  ·rename_i h1; exact ⟨unC h.1 h1, unCs h.2 hc⟩
  ·cases hc
 | [], _ :: _, h, _ => h.elim
 | _ :: _, [], h, _ => h.elim
theorem unS : ∀ {s : SV} {x : Value}, SRel X ρ (rnS π 0 s) x -> okS u s = true -> SRel X (under π u ρ) s x
 | .one _, _, h, hc => unC h hc
 | .agg _, _, ⟨vs, h1, h2⟩, hc => ⟨vs, h1, unCs h2 hc⟩
theorem unSs : ∀ {l : List SV} {vs : List Value}, qa9 X ρ (rnSs π 0 l) vs -> okSs u l = true -> qa9 X (under π u ρ) l vs
 | [], [], _, _ => trivial
 | c :: l, v :: vs, h, hc => by
  unfold okSs at hc
  split at hc
  ·rename_i h1; exact ⟨unS h.1 h1, unSs h.2 hc⟩
  ·cases hc
 | [], _ :: _, h, _ => h.elim
 | _ :: _, [], h, _ => h.elim
theorem unT : ∀ {v : TV} {x : Value}, TRel X ρ (rnT π 0 v) x -> okT u v = true -> TRel X (under π u ρ) v x
 | .sv _, _, h, hc => unS h hc
 | .tup _, _, ⟨vs, h1, h2⟩, hc => ⟨vs, h1, unSs h2 hc⟩
 | .gd _ _, _, h, hc => ⟨fun hb => unS (h.1 hb) hc, h.2⟩
theorem qvh {t : TL} : ∀ {t0 : TL} {s : Nat} {v : TV}, All (subT π t t0) -> lk t0 s = some v -> lk t s = some (rnT π 0 v)
 | [], _, _, _, h => by cases h
 | (k, v0) :: l, s, v, ha, h => by
  rw [jy] at h
  by_cases e : k = s
  ·subst e; rw [if_pos rfl] at h; obtain rfl := Option.some.inj h; exact ha.1
  ·rw [if_neg e] at h; exact qvh ha.2 h
theorem qie {m : ML} : ∀ {m0 : ML} {q : Nat} {b : Blk}, All (subM π m m0) -> lk m0 q = some (some b) -> lk m (rn π 0 q) = some (some (rnB π 0 b))
 | [], _, _, _, h => by cases h
 | (k, b0) :: l, q, b, ha, h => by
  rw [jy] at h
  by_cases e : k = q
  ·subst e; rw [if_pos rfl] at h; obtain rfl := Option.some.inj h; exact ha.1
  ·rw [if_neg e] at h
   refine qie ?_ h
   cases b0 with
   | none => exact ha
   | some b0 => exact ha.2
theorem qvi : ∀ {t : TL} {s : Nat} {v : TV}, okTL u t = true -> lk t s = some v -> okT u v = true
 | [], _, _, _, h => by cases h
 | (k, v0) :: l, s, v, ha, h => by
  rw [jy] at h
  unfold okTL at ha
  split at ha
  ·rename_i h1
   by_cases e : k = s
   ·rw [if_pos e] at h; obtain rfl := Option.some.inj h; exact h1
   ·rw [if_neg e] at h; exact qvi ha h
  ·cases ha
theorem qmf : ∀ {m : ML} {q : Nat} {b : Option Blk}, okML u m = true -> lk m q = some b -> hasN u q = true /\ okB u b = true
 | [], _, _, _, h => by cases h
 | (k, b0) :: l, q, b, ha, h => by
  rw [jy] at h
  unfold okML at ha
  split at ha
  ·rename_i h1 h2
   by_cases e : k = q
   ·rw [if_pos e] at h; obtain rfl := Option.some.inj h; exact ⟨e ▸ h1, h2⟩
   ·rw [if_neg e] at h; exact qmf ha h
  ·cases ha
theorem unM {m m0 : ML} (hM : MRel X ρ w m) (hs : All (subM π m m0)) (hok : okML u m0 = true) (hnd : qd3 (rnN π 0 u) = true) : MRel X (under π u ρ) w m0 := by
 obtain ⟨B, hB⟩ := hM
 have hn := qg2 hnd
 rw [qi6] at hn
 have hinj := qp6 hn
 refine ⟨fun q => B (rn π 0 q), fun q b h => ?_, fun q b h => hB.nd _ _ (qie hs h), fun q b h => hB.nf _ _ (qie hs h), fun q q' b b' hne h h' => ?_⟩
 ·obtain ⟨h1, h2⟩ := qmf hok h
  have h3 := hB.blk _ _ (qie hs h)
  cases b with
  | box T vs =>
   obtain ⟨g, cur, k1, k2, k3, k4⟩ := h3
   exact ⟨g, cur, (qde h1).trans k1, k2, k3, unCs k4 h2⟩
  | row T k l =>
   obtain ⟨y, k1, k2⟩ := h3
   exact ⟨y, (qde h1).trans k1, k2⟩
  | pin q' x =>
   exact ⟨(qde h1).trans h3.1, (qde h2).trans h3.2.1, h3.2.2⟩
  | rro T k l =>
   obtain ⟨g, cur, k1, k2⟩ := h3
   exact ⟨g, cur, (qde h1).trans k1, k2⟩
 ·exact hB.dj _ _ _ _ (fun e => hne (hinj q ((qcu _ _).1 (qmf hok h).1) q' ((qcu _ _).1 (qmf hok h').1) e)) (qie hs h) (qie hs h')
theorem qjx : ∀ {l : List Nat}, fixed π l = true -> ∀ q ∈ l, rn π 0 q = q
 | [], _, q, h => by cases h
 | k :: l, h, q, hq => by
  unfold fixed at h
  split at h
  ·rename_i h1
   rw [List.mem_cons] at hq
   rcases hq with rfl | hq
   ·rw [← Nat.beq_eq]; exact h1
   ·exact qjx h q hq
  ·cases h
theorem qxa {ρ0 : Env} {base : List Nat} (hE : Ext ρ0 ρ) (hb : ∀ q y, ρ0 q = some y -> q ∈ base) (hin : allIn base u = true) (hfx : fixed π base = true) : Ext ρ0 (under π u ρ) := by
 intro q y hq
 have h1 := hb q y hq
 have h2 := qhs hin q h1
 show (if q ∈ u then ρ (rn π 0 q) else none) = some y
 rw [if_pos h2, qjx hfx q h1]
 exact hE q y hq
end
section
variable {P : Program} {F : Fr} {tt : TT} {a : Act} {w : World}
theorem q8s (π : List (Nat × Nat)) {σ0 σ : St} (hT : All (subT π σ.t σ0.t)) (hM : All (subM π σ.m σ0.m)) (h1 : okTL σ0.u σ0.t = true) (h2 : okML σ0.u σ0.m = true) (h3 : qd3 (rnN π 0 σ0.u) = true) (h4 : allIn F.base σ0.u = true) (h5 : fixed π F.base = true) : Wk F σ0 σ (rn π 0) := by
 refine ⟨fun ρ a w hE hA hm => ⟨qxa hE F.hb h4 h5, ⟨hA.size, hA.defers, fun s v hs => ?_⟩, unM hm hM h2 h3⟩⟩
 obtain ⟨x, k1, k2⟩ := hA.at_ s _ (qvh hT hs)
 exact ⟨x, k1, unT k2 (qvi h1 hs)⟩
def resV (tt : TT) (t : TL) (m : ML) : ResultVar -> Option (SV × List Prop)
 | .tmp s => opd t none (.tmp s)
 | .cell s ty => match lk t s, lk tt ty with
  | some (.sv (.one (.box r j))), some i => match lk m r with
   | some (some (.box _ vs)) => match qhh i.size (qiv j vs) with
    | some l => match one? i.isAgg l with
     | some v => some (v, [])
     | none => none
    | none => none
   | _ => none
  | _, _ => none
def qiy (tt : TT) (t : TL) (m : ML) : List ResultVar -> Option (List SV × List Prop)
 | [] => some ([], [])
 | r :: l => match resV tt t m r, qiy tt t m l with
  | some (v, o1), some (vs, o2) => some (v :: vs, app o1 o2)
  | _, _ => none
def resT (l : List SV) : TV :=
 match l with
 | [v] => .sv v
 | l => .tup l
def Fin (tt : TT) (rs : List ResultVar) (c : CFD) (σ : St) : Prop :=
 ∃ (π : List (Nat × Nat)) (vs : List SV) (ob : List Prop), qiy tt σ.t σ.m rs = some (vs, ob) /\ All ob /\ resT vs = rnT π 0 c.res /\ All (subM π σ.m c.post) /\ okT (app (keys c.pre) c.nm) c.res = true /\ okML (app (keys c.pre) c.nm) c.post = true /\ qd3 (rnN π 0 (app (keys c.pre) c.nm)) = true /\ fixed π (keys c.pre) = true
def qrp (tmps : Array Value) (r : ResultVar) : Sem Value :=
 match r with
 | .tmp t => pure (tmps.getD t undef)
 | .cell q ty => do loadVar ty (← asAddr (tmps.getD q undef))
theorem qto (htt : TTok P tt) {X : Cx} {ρ : Env} {n : Nat} {t : TL} {m : ML} (hA : ARel X ρ n t a) (hM : MRel X ρ w m) {r : ResultVar} {v : SV} {ob : List Prop} (h : resV tt t m r = some (v, ob)) (ho : All ob) :
  ∃ x, SRel X ρ v x /\ (qrp a.tmps r).run P w = .ok x w := by
 cases r with
 | tmp s =>
  change opd t none (.tmp s) = some (v, ob) at h
  exact ⟨_, qw h ho (fun _ h => (by cases h)) hA, rfl⟩
 | cell s ty =>
  unfold resV at h
  simp only at h
  split at h
  ·rename_i r j i hs hT
   split at h
   ·rename_i T' vs hr
    split at h
    ·rename_i l hl
     split at h
     ·rename_i v' hv
      simp at h
      obtain ⟨rfl, rfl⟩ := h
      obtain ⟨B, hB⟩ := hM
      obtain ⟨y, hy, g0, hρ, rfl⟩ := hA.at_ s _ hs
      obtain ⟨g1, cur, h1, h2, _, h3⟩ := hB.blk r _ hr
      rw [hρ] at h1
      have : g0 = g1 := by simpa using h1
      subst this
      obtain ⟨rfl, hlen⟩ := qge _ _ _ hl
      rw [qgd] at hv hlen
      have hle := h3.len
      have hcl : cur.toList.length = cur.size := Array.length_toList
      obtain ⟨x, x1, x2, x3⟩ := qg0 hv ((h3.drop j).take i.size)
      refine ⟨x, x1, ?_⟩
      have hrun := qll (P := P) (w := w) (htt ty i hT) (qho h2 j i.size) (by rw [List.length_drop] at hlen; rw [List.length_take, List.length_drop]; omega) x2 x3
      have he : a.tmps.getD s undef = .pointer (some ⟨g0, j, none⟩) := by simp [Array.getD_eq_getD_getElem?, hy]
      simpa [qrp, he, Instr.loadAt, Instr.sureAddr, asAddr] using hrun
     ·cases h
    ·cases h
   ·cases h
  ·cases h
theorem qlp (htt : TTok P tt) {X : Cx} {ρ : Env} {n : Nat} {t : TL} {m : ML} (hA : ARel X ρ n t a) (hM : MRel X ρ w m) : ∀ {rs : List ResultVar} {vs : List SV} {ob : List Prop}, qiy tt t m rs = some (vs, ob) -> All ob →
  ∃ xs, qa9 X ρ vs xs /\ (rs.mapM (qrp a.tmps)).run P w = .ok xs w
 | [], vs, ob, h, _ => by
  simp [qiy] at h; obtain ⟨rfl, rfl⟩ := h
  exact ⟨[], trivial, rfl⟩
 | r :: rs, vs, ob, h, ho => by
  unfold qiy at h
  split at h
  ·rename_i v o1 vs' o2 h1 h2
   simp at h; obtain ⟨rfl, rfl⟩ := h
   rw [qy] at ho
   obtain ⟨x, k1, k2⟩ := qto htt hA hM h1 ho.1
   obtain ⟨xs, k3, k4⟩ := qlp htt hA hM h2 ho.2
   refine ⟨x :: xs, ⟨k1, k3⟩, ?_⟩
   rw [List.mapM_cons]
   simp only [Sem.run_bind, k2, Result.andThen_ok, k4, Sem.run_pure]
  ·cases h
theorem qiz (htt : TTok P tt) {X : Cx} {ρ : Env} {n : Nat} {t : TL} {m : ML} (hA : ARel X ρ n t a) (hM : MRel X ρ w m) {fn : Func} {vs : List SV} {ob : List Prop} (h : qiy tt t m fn.results.toList = some (vs, ob)) (ho : All ob) :
  ∃ x, TRel X ρ (resT vs) x /\ (results fn a.tmps).run P w = .ok x w := by
 obtain ⟨xs, h1, h2⟩ := qlp htt hA hM h ho
 have h3 : (fn.results.mapM (qrp a.tmps)).run P w = .ok xs.toArray w := by
  rw [Array.mapM_eq_mapM_toList]
  simp [h2]
 have hrun : (results fn a.tmps).run P w = .ok (if h : xs.toArray.size = 1 then xs.toArray[0] else .tuple xs.toArray) w := by
  show (do let vs ← fn.results.mapM (qrp a.tmps); pure (if h : vs.size = 1 then vs[0] else .tuple vs) : Sem Value).run P w = _
  rw [Sem.run_bind, h3]
  rfl
 match vs, xs, h1, hrun with
 | [], [], _, hrun => exact ⟨.tuple #[], ⟨#[], rfl, trivial⟩, hrun⟩
 | [v], [x], h1, hrun => exact ⟨x, h1.1, hrun⟩
 | v1 :: v2 :: vs, x1 :: x2 :: xs, h1, hrun =>
  have : ¬ (x1 :: x2 :: xs).toArray.size = 1 := by simp
  rw [dif_neg this] at hrun
  exact ⟨_, ⟨_, rfl, h1⟩, hrun⟩
 | [], _ :: _, h1, _ => exact h1.elim
 | _ :: _, [], h1, _ => exact h1.elim
 | [_], _ :: _ :: _, h1, _ => exact h1.2.elim
 | _ :: _ :: _, [_], h1, _ => exact h1.2.elim
def argT : Nat -> List SV -> TL
 | _, [] => []
 | i, s :: l => (i, .sv s) :: argT (i + 1) l
theorem qjb {X : Cx} {ρ : Env} : ∀ {l : List SV} {xs : List Value} {i : Nat} {s : Nat} {v : TV}, qa9 X ρ l xs -> lk (argT i l) s = some v -> ∃ x, i <= s /\ xs[s - i]? = some x /\ TRel X ρ v x
 | [], _, _, _, _, _, h => by cases h
 | c :: l, x :: xs, i, s, v, hr, h => by
  change lk ((i, .sv c) :: argT (i + 1) l) s = some v at h
  rw [jy] at h
  by_cases e : i = s
  ·subst e
   rw [if_pos rfl] at h
   obtain rfl := Option.some.inj h
   exact ⟨x, Nat.le_refl _, by simp, hr.1⟩
  ·rw [if_neg e] at h
   obtain ⟨y, h1, h2, h3⟩ := qjb hr.2 h
   refine ⟨y, by omega, ?_, h3⟩
   rw [show s - i = (s - (i + 1)) + 1 by omega]
   simpa using h2
 | _ :: _, [], _, _, _, hr, _ => hr.elim
theorem qa9.len {X : Cx} {ρ : Env} : ∀ {l : List SV} {xs : List Value}, qa9 X ρ l xs -> l.length = xs.length
 | [], [], _ => rfl
 | _ :: _, _ :: _, h => by simp [qa9.len h.2]
 | [], _ :: _, h => h.elim
 | _ :: _, [], h => h.elim
theorem q8t (htt : TTok P tt) {c : CFD} {fn : Func} {code : Code} (hn : Nat.ble (lenL c.args) fn.ntmps = true)
  (h : ∀ (X : Cx) (ρ0 : Env) (hb : ∀ q y, ρ0 q = some y -> q ∈ keys c.pre), qc8 (GlX X) c.gl -> AR P ⟨X, ρ0, keys c.pre, fn.ntmps, hb⟩ (Fin tt fn.results.toList c) [.code code] ⟨argT 0 c.args, c.pre, keys c.pre⟩) {X : Cx} {ρ : Env} {xs : List Value} (hds : X.ds = []) (hgl : qc8 (GlX X) c.gl) (hM : MRel X ρ X.w0 c.pre) (hk : ∀ q y, ρ q = some y -> q ∈ keys c.pre) (hx : qa9 X ρ c.args xs) :
  Co.wpK P X.H X.Pt code (Co.q5q P X.H fn (qjw X ρ c)) { tmps := xs.toArray ++ Array.replicate (fn.ntmps - xs.toArray.size) undef, defers := [] } X.w0 := by
 rw [qfy] at hn
 have hlen := hx.len
 have hn' := Nat.le_of_ble_eq_true hn
 let F : Fr := ⟨X, ρ, keys c.pre, fn.ntmps, hk⟩
 have hS : qba F ⟨argT 0 c.args, c.pre, keys c.pre⟩ { tmps := xs.toArray ++ Array.replicate (fn.ntmps - xs.toArray.size) undef, defers := [] } X.w0 := by
  refine ⟨ρ, Ext.refl ρ, ⟨?_, hds.symm, fun s v hs => ?_⟩, hM, hk, ⟨rfl, rfl, rfl, Nat.le_refl _, fun _ _ _ => rfl⟩⟩
  ·show (xs.toArray ++ Array.replicate (fn.ntmps - xs.toArray.size) undef).size = fn.ntmps
   simp; omega
  ·obtain ⟨x, _, h2, h3⟩ := qjb hx hs
   refine ⟨x, ?_, h3⟩
   rw [Nat.sub_zero] at h2
   have hsl : s < xs.length := by
    rcases Nat.lt_or_ge s xs.length with h | h
    ·exact h
    ·rw [List.getElem?_eq_none h] at h2; cases h2
   show (xs.toArray ++ Array.replicate (fn.ntmps - xs.toArray.size) undef)[s]? = some x
   rw [Array.getElem?_append_left (by simpa using hsl)]
   simpa using h2
 refine Co.qfh (h X ρ hk hgl _ _ hS) ?_
 have fin : ∀ (a : Act) (w : World), (∃ σ, Fin tt fn.results.toList c σ /\ qba F σ a w) -> a.defers = [] /\ ∀ w₁, Co.Aside X.H w w₁ -> ∃ v, (results fn a.tmps).run P w₁ = .ok v w₁ /\ qjw X ρ c (.returned v) w₁ := by
  rintro a w0 ⟨σ, ⟨π, vs, ob, k1, k2, k3, k4, k5, k6, k7, k8⟩, ρ1, hE, hA, hM0, hU, hW0⟩
  refine ⟨hA.defers.trans hds, fun w ha => ?_⟩
  have hM1 := hM0.aside ha
  have hW := hW0.aside ha
  obtain ⟨x, g1, g2⟩ := qiz htt hA hM1 k1 k2
  rw [k3] at g1
  refine ⟨x, g2, x, under π (app (keys c.pre) c.nm) ρ1, rfl, unT g1 k5, ?_, fun q y hq => ?_, unM hM1 k4 k6 k7, hW⟩
  ·intro q y hq
   have h1 := hk q y hq
   show (if q ∈ app (keys c.pre) c.nm then ρ1 (rn π 0 q) else none) = some y
   rw [if_pos (by rw [qan, List.mem_append]; exact .inl h1), qjx k8 q h1]
   exact hE q y hq
  ·have hq' : (if q ∈ app (keys c.pre) c.nm then ρ1 (rn π 0 q) else none) = some y := hq
   by_cases e : q ∈ app (keys c.pre) c.nm
   ·rw [qan, List.mem_append] at e; exact e
   ·rw [if_neg e] at hq'; cases hq'
 intro e a w hk
 cases e with
 | normal => exact fin a w hk
 | ret => exact fin a w hk
 | exit id => exact hk.elim
 | goto l => exact hk.elim
 | panic ch => exact hk.elim
 | outgrown => exact hk.elim
theorem qm (htt : TTok P tt) {c : CFD} {fn : Func} {code : Code} {n : Nat} {base : List Nat} {rs : List ResultVar} {t0 : TL} {m0 : ML} (hf : P.funcs[c.f]? = some fn) (hb : fn.body = some code) (hcall : ∀ args w, (callFunc c.f args).run P w = .ok (.enter c.f args) w) (hn0 : fn.ntmps = n) (hrs : fn.results = ⟨rs⟩) (hbase : keys c.pre = base) (hm0 : c.pre = m0) (ht0 : argT 0 c.args = t0) (hn : Nat.ble (lenL c.args) n = true)
  (h : ∀ (X : Cx) (ρ0 : Env) (hb : ∀ q y, ρ0 q = some y -> q ∈ base), qc8 (GlX X) c.gl -> AR P ⟨X, ρ0, base, n, hb⟩ (Fin tt rs c) [.code code] ⟨t0, m0, base⟩) : Fn P c := by
 subst hn0 hbase hm0 ht0
 obtain rfl : rs = fn.results.toList := by rw [hrs]
 refine ⟨fun X ρ xs hds hgl hM hk hx => Co.qwu hf hb (q8t htt hn h hds hgl hM hk hx), hcall, fun _ args w => by
  unfold callFunc
  simp only [Sem.events_bind, run_program, Result.evThen_ok, events_program, hf, hb, Option.isNone_some, Bool.false_eq_true, if_false]
  split <;> rfl⟩
end
def xCap (π : List (Nat × Nat)) : List (Option (Nat × Nat)) -> List (Option (Nat × Nat)) -> Bool
 | [], [] => true
 | none :: l, none :: l' => xCap π l l'
 | some (q, j) :: l, some (r, j') :: l' => match Nat.beq (rn π 0 q) r, Nat.beq j j' with
  | true, true => xCap π l l'
  | _, _ => false
 | _, _ => false
def xC (π : List (Nat × Nat)) : CV -> CV -> Option (List Prop)
 | .lit v, .lit v' => some [v' = v]
 | .ro T k n c, .ro T' k' n' c' => match Nat.beq T T', Nat.beq k k' with
  | true, true => some [n' = n, c' = c]
  | _, _ => none
 | .hd q, .hd r => match Nat.beq (rn π 0 q) r with
  | true => some []
  | false => none
 | .box q j, .box r j' => match Nat.beq (rn π 0 q) r, Nat.beq j j' with
  | true, true => some []
  | _, _ => none
 | .el q k i j, .el r k' i' j' => match Nat.beq (rn π 0 q) r, Nat.beq k k', Nat.beq j j' with
  | true, true, true => some [i' = i]
  | _, _, _ => none
 | .roel T k n c i j, .roel T' k' n' c' i' j' => match Nat.beq T T', Nat.beq k k', Nat.beq j j' with
  | true, true, true => some [n' = n, c' = c, i' = i]
  | _, _, _ => none
 | .ifro T d, .ifro T' d' => match Nat.beq T T' with
  | true => some [d' = d]
  | false => none
 | .fn f cs, .fn f' cs' => match Nat.beq f f', xCap π cs cs' with
  | true, true => some []
  | _, _ => none
 | _, _ => none
def xCs (π : List (Nat × Nat)) : List CV -> List CV -> Option (List Prop)
 | [], [] => some []
 | c :: l, c' :: l' => match xC π c c', xCs π l l' with
  | some o1, some o2 => some (app o1 o2)
  | _, _ => none
 | _, _ => none
def xS (π : List (Nat × Nat)) : SV -> SV -> Option (List Prop)
 | .one c, .one c' => xC π c c'
 | .agg l, .agg l' => xCs π l l'
 | _, _ => none
def xSs (π : List (Nat × Nat)) : List SV -> List SV -> Option (List Prop)
 | [], [] => some []
 | c :: l, c' :: l' => match xS π c c', xSs π l l' with
  | some o1, some o2 => some (app o1 o2)
  | _, _ => none
 | _, _ => none
def xT (π : List (Nat × Nat)) : TV -> TV -> Option (List Prop)
 | .sv s, .sv s' => xS π s s'
 | .tup l, .tup l' => xSs π l l'
 | .gd b s, .gd b' s' => match xS π s s' with
  | some o => some ((b' = b) :: o)
  | none => none
 | _, _ => none
def xB (π : List (Nat × Nat)) : Blk -> Blk -> Option (List Prop)
 | .box T vs, .box T' vs' => match Nat.beq T T' with
  | true => xCs π vs vs'
  | false => none
 | .row T k l, .row T' k' l' => match Nat.beq T T', Nat.beq k k' with
  | true, true => some [l' = l]
  | _, _ => none
 | _, _ => none
def xTL (π : List (Nat × Nat)) (t : TL) : TL -> Option (List Prop)
 | [] => some []
 | (s, v) :: l => match lk t s, xTL π t l with
  | some v', some o2 => match xT π v v' with
   | some o1 => some (app o1 o2)
   | none => none
  | _, _ => none
def xM (π : List (Nat × Nat)) (m : ML) : ML -> Option (List Prop)
 | [] => some []
 | (q, some b) :: l => match lk m (rn π 0 q), xM π m l with
  | some (some b'), some o2 => match xB π b b' with
   | some o1 => some (app o1 o2)
   | none => none
  | _, _ => none
 | (_, none) :: l => xM π m l
section
variable {π : List (Nat × Nat)}
theorem qqc : ∀ {l l' : List (Option (Nat × Nat))}, xCap π l l' = true -> l' = zx π 0 l
 | [], [], _ => rfl
 | none :: l, none :: l', h => by rw [qqc (l := l) (l' := l') h]; rfl
 | some (q, j) :: l, some (r, j') :: l', h => by
  unfold xCap at h
  split at h
  ·rename_i h1 h2
   rw [Nat.beq_eq] at h1 h2
   subst h1 h2
   rw [qqc h]; rfl
  ·cases h
 | [], none :: _, h => by simp [xCap] at h
 | [], some _ :: _, h => by simp [xCap] at h
 | none :: _, [], h => by simp [xCap] at h
 | some _ :: _, [], h => by simp [xCap] at h
 | none :: _, some _ :: _, h => by simp [xCap] at h
 | some _ :: _, none :: _, h => by simp [xCap] at h
theorem q5t {c c' : CV} {o : List Prop} (h : xC π c c' = some o) (ho : All o) : c' = rnC π 0 c := by
 unfold xC at h
 split at h
 ·obtain rfl := Option.some.inj h; obtain ⟨rfl, _⟩ := ho; rfl
 ·split at h
  ·rename_i h1 h2
   obtain rfl := Option.some.inj h
   obtain ⟨rfl, rfl, _⟩ := ho
   rw [Nat.beq_eq] at h1 h2
   subst h1 h2; rfl
  ·cases h
 ·split at h
  ·rename_i h1
   rw [Nat.beq_eq] at h1
   subst h1; rfl
  ·cases h
 ·split at h
  ·rename_i h1 h2
   rw [Nat.beq_eq] at h1 h2
   subst h1 h2; rfl
  ·cases h
 ·split at h
  ·rename_i h1 h2 h3
   obtain rfl := Option.some.inj h
   obtain ⟨rfl, _⟩ := ho
   rw [Nat.beq_eq] at h1 h2 h3
   subst h1 h2 h3; rfl
  ·cases h
 ·split at h
  ·rename_i h1 h2 h3
   obtain rfl := Option.some.inj h
   obtain ⟨rfl, rfl, rfl, _⟩ := ho
   rw [Nat.beq_eq] at h1 h2 h3
   subst h1 h2 h3; rfl
  ·cases h
 ·split at h
  ·rename_i h1
   obtain rfl := Option.some.inj h
   obtain ⟨rfl, _⟩ := ho
   rw [Nat.beq_eq] at h1
   subst h1; rfl
  ·cases h
 ·split at h
  ·rename_i h1 h2
   rw [Nat.beq_eq] at h1
   subst h1
   rw [qqc h2]; rfl
  ·cases h
 ·cases h
theorem qtp : ∀ {l l' : List CV} {o : List Prop}, xCs π l l' = some o -> All o -> l' = rnCs π 0 l
 | [], [], _, _, _ => rfl
 | c :: l, c' :: l', o, h, ho => by
  unfold xCs at h
  split at h
  ·rename_i o1 o2 h1 h2
   obtain rfl := Option.some.inj h
   rw [qy] at ho
   rw [q5t h1 ho.1, qtp h2 ho.2]; rfl
  ·cases h
 | [], _ :: _, _, h, _ => by simp [xCs] at h
 | _ :: _, [], _, h, _ => by simp [xCs] at h
theorem qy9 : ∀ {c c' : SV} {o : List Prop}, xS π c c' = some o -> All o -> c' = rnS π 0 c
 | .one _, .one _, _, h, ho => by rw [q5t h ho]; rfl
 | .agg _, .agg _, _, h, ho => by rw [qtp h ho]; rfl
 | .one _, .agg _, _, h, _ => by simp [xS] at h
 | .agg _, .one _, _, h, _ => by simp [xS] at h
theorem qza : ∀ {l l' : List SV} {o : List Prop}, xSs π l l' = some o -> All o -> l' = rnSs π 0 l
 | [], [], _, _, _ => rfl
 | c :: l, c' :: l', o, h, ho => by
  unfold xSs at h
  split at h
  ·rename_i o1 o2 h1 h2
   obtain rfl := Option.some.inj h
   rw [qy] at ho
   rw [qy9 h1 ho.1, qza h2 ho.2]; rfl
  ·cases h
 | [], _ :: _, _, h, _ => by simp [xSs] at h
 | _ :: _, [], _, h, _ => by simp [xSs] at h
theorem q5u : ∀ {c c' : TV} {o : List Prop}, xT π c c' = some o -> All o -> c' = rnT π 0 c
 | .sv _, .sv _, _, h, ho => by rw [qy9 h ho]; rfl
 | .tup _, .tup _, _, h, ho => by rw [qza h ho]; rfl
 | .gd b s, .gd b' s', o, h, ho => by
  unfold xT at h
  simp only at h
  split at h
  ·rename_i o' h1
   obtain rfl := Option.some.inj h
   obtain ⟨rfl, h2⟩ := ho
   rw [qy9 h1 h2]; rfl
  ·cases h
 | .sv _, .tup _, _, h, _ => by simp [xT] at h
 | .sv _, .gd _ _, _, h, _ => by simp [xT] at h
 | .tup _, .sv _, _, h, _ => by simp [xT] at h
 | .tup _, .gd _ _, _, h, _ => by simp [xT] at h
 | .gd _ _, .sv _, _, h, _ => by simp [xT] at h
 | .gd _ _, .tup _, _, h, _ => by simp [xT] at h
theorem q8u : ∀ {c c' : Blk} {o : List Prop}, xB π c c' = some o -> All o -> c' = rnB π 0 c
 | .box T vs, .box T' vs', o, h, ho => by
  unfold xB at h
  simp only at h
  split at h
  ·rename_i h1
   rw [Nat.beq_eq] at h1
   subst h1
   rw [qtp h ho]; rfl
  ·cases h
 | .row T k l, .row T' k' l', o, h, ho => by
  unfold xB at h
  simp only at h
  split at h
  ·rename_i h1 h2
   obtain rfl := Option.some.inj h
   obtain ⟨rfl, _⟩ := ho
   rw [Nat.beq_eq] at h1 h2
   subst h1 h2; rfl
  ·cases h
 | .pin _ _, .row _ _ _, _, h, _ => by simp [xB] at h
 | .pin _ _, .box _ _, _, h, _ => by simp [xB] at h
 | .pin _ _, .pin _ _, _, h, _ => by simp [xB] at h
 | .box _ _, .pin _ _, _, h, _ => by simp [xB] at h
 | .row _ _ _, .pin _ _, _, h, _ => by simp [xB] at h
 | .box _ _, .row _ _ _, _, h, _ => by simp [xB] at h
 | .row _ _ _, .box _ _, _, h, _ => by simp [xB] at h
 | .rro _ _ _, .box _ _, _, h, _ => by simp [xB] at h
 | .rro _ _ _, .row _ _ _, _, h, _ => by simp [xB] at h
 | .rro _ _ _, .pin _ _, _, h, _ => by simp [xB] at h
 | .rro _ _ _, .rro _ _ _, _, h, _ => by simp [xB] at h
 | .box _ _, .rro _ _ _, _, h, _ => by simp [xB] at h
 | .row _ _ _, .rro _ _ _, _, h, _ => by simp [xB] at h
 | .pin _ _, .rro _ _ _, _, h, _ => by simp [xB] at h
theorem qvj {t : TL} : ∀ {t0 : TL} {o : List Prop}, xTL π t t0 = some o -> All o -> All (subT π t t0)
 | [], _, _, _ => trivial
 | (s, v) :: l, o, h, ho => by
  unfold xTL at h
  split at h
  ·rename_i v' o2 h1 h2
   split at h
   ·rename_i o1 h3
    obtain rfl := Option.some.inj h
    rw [qy] at ho
    exact ⟨by rw [h1, q5u h3 ho.1], qvj h2 ho.2⟩
   ·cases h
  ·cases h
theorem qqd {m : ML} : ∀ {m0 : ML} {o : List Prop}, xM π m m0 = some o -> All o -> All (subM π m m0)
 | [], _, _, _ => trivial
 | (q, some b) :: l, o, h, ho => by
  unfold xM at h
  split at h
  ·rename_i b' o2 h1 h2
   split at h
   ·rename_i o1 h3
    obtain rfl := Option.some.inj h
    rw [qy] at ho
    exact ⟨by rw [h1, q8u h3 ho.1], qqd h2 ho.2⟩
   ·cases h
  ·cases h
 | (q, none) :: l, o, h, ho => by
  have h' : xM π m l = some o := h
  exact (qqd (m0 := l) h' ho : All (subM π m l))
end
def wkOb (base : List Nat) (σ0 σ : St) (π : List (Nat × Nat)) : Option (List Prop) :=
 match xTL π σ.t σ0.t, xM π σ.m σ0.m with
 | some o1, some o2 => match okTL σ0.u σ0.t, okML σ0.u σ0.m, qd3 (rnN π 0 σ0.u), allIn base σ0.u, fixed π base with
  | true, true, true, true, true => some (app o1 o2)
  | _, _, _, _, _ => none
 | _, _ => none
theorem q20 {F : Fr} {σ0 σ : St} {o : List Prop} (h : wkOb F.base σ0 σ (mpM σ0.m σ.m (mpTL σ0.t σ.t [])) = some o) (ho : All o) : Wk F σ0 σ (rn (mpM σ0.m σ.m (mpTL σ0.t σ.t [])) 0) := by
 generalize mpM σ0.m σ.m (mpTL σ0.t σ.t []) = π at *
 unfold wkOb at h
 split at h
 ·rename_i o1 o2 h1 h2
  split at h
  ·rename_i k1 k2 k3 k4 k5
   obtain rfl := Option.some.inj h
   rw [qy] at ho
   exact q8s π (qvj h1 ho.1) (qqd h2 ho.2) k1 k2 k3 k4 k5
  ·cases h
 ·cases h
def qlq (c : CFD) (σ : St) (vs : List SV) (π : List (Nat × Nat)) : Option (List Prop) :=
 match xT π c.res (resT vs), xM π σ.m c.post with
 | some o1, some o2 => match okT (app (keys c.pre) c.nm) c.res, okML (app (keys c.pre) c.nm) c.post, qd3 (rnN π 0 (app (keys c.pre) c.nm)), fixed π (keys c.pre) with
  | true, true, true, true => some (app o1 o2)
  | _, _, _, _ => none
 | _, _ => none
def idN : List Nat -> List (Nat × Nat)
 | [] => []
 | q :: l => (q, q) :: idN l
theorem qzb {tt : TT} {rs : List ResultVar} {c : CFD} {σ : St} {vs : List SV} {ob o : List Prop} (h1 : qiy tt σ.t σ.m rs = some (vs, ob)) (h2 : qlq c σ vs (mpM c.post σ.m (mpT c.res (resT vs) (idN (keys c.pre)))) = some o) (ho : All (app ob o)) : Fin tt rs c σ := by
 generalize mpM c.post σ.m (mpT c.res (resT vs) (idN (keys c.pre))) = π at *
 unfold qlq at h2
 split at h2
 ·rename_i o1 o2 k1 k2
  split at h2
  ·rename_i k3 k4 k5 k6
   obtain rfl := Option.some.inj h2
   rw [qy, qy] at ho
   exact ⟨π, vs, ob, h1, ho.1, q5u k1 ho.2.1, qqd k2 ho.2.2, k3, k4, k5, k6⟩
  ·cases h2
 ·cases h2
def selT (t : TL) : List Nat -> TL
 | [] => []
 | s :: l => match lk t s with
  | some v => (s, v) :: selT t l
  | none => selT t l
def selM (m : ML) : List Nat -> ML
 | [] => []
 | r :: l => match lk m r with
  | some b => (r, b) :: selM m l
  | none => selM m l
theorem qmg {t : TL} : ∀ {ss : List Nat} {s : Nat} {v : TV}, lk (selT t ss) s = some v -> lk t s = some v
 | [], _, _, h => by cases h
 | q :: l, s, v, h => by
  unfold selT at h
  split at h
  ·rename_i v' hq
   rw [jy] at h
   by_cases e : q = s
   ·subst e; rw [if_pos rfl] at h; rw [hq]; exact h
   ·rw [if_neg e] at h; exact qmg h
  ·exact qmg h
theorem qel {m : ML} : ∀ {ss : List Nat} {s : Nat} {v : Option Blk}, lk (selM m ss) s = some v -> lk m s = some v /\ s ∈ ss
 | [], _, _, h => by cases h
 | q :: l, s, v, h => by
  unfold selM at h
  split at h
  ·rename_i v' hq
   rw [jy] at h
   by_cases e : q = s
   ·subst e; rw [if_pos rfl] at h; exact ⟨by rw [hq]; exact h, by simp⟩
   ·rw [if_neg e] at h; have := qel h; exact ⟨this.1, by simp [this.2]⟩
  ·have := qel h; exact ⟨this.1, by simp [this.2]⟩
theorem qqe {m : ML} : ∀ {ss : List Nat} {s : Nat}, s ∈ ss -> lk (selM m ss) s = lk m s
 | [], _, h => by cases h
 | q :: l, s, h => by
  unfold selM
  split
  ·rename_i v' hq
   rw [jy]
   by_cases e : q = s
   ·subst e; rw [if_pos rfl, hq]
   ·rw [if_neg e]
    rw [List.mem_cons] at h
    rcases h with h | h
    ·exact absurd h.symm e
    ·exact qqe h
  ·rename_i hq
   by_cases e : q = s
   ·subst e
    cases hs : lk (selM m l) q with
    | none => rw [hq]
    | some v => have := (qel hs).1; rw [hq] at this; cases this
   ·rw [List.mem_cons] at h
    rcases h with h | h
    ·exact absurd h.symm e
    ·exact qqe h
structure Reads2 (X Y : Cx) : Prop where
 ro : ∀ d vs, RdO X.w0 X.F d vs -> RdO Y.w0 Y.F d vs
theorem CRel.mv {X Y : Cx} (h : Reads2 X Y) {ρ : Env} {c : CV} {x : Value} (hc : CRel X ρ c x) : CRel Y ρ c x := by
 cases c with
 | lit v => exact hc
 | ro T k n d => exact h.ro _ _ hc
 | hd r => exact hc
 | box r j => exact hc
 | el r k i j => exact hc
 | roel T k n d i j => obtain ⟨g, o, cap, h1, h3⟩ := hc; exact ⟨g, o, cap, h.ro _ _ h1, h3⟩
 | ifro T d => obtain ⟨vs, h1, h3, h4⟩ := hc; exact ⟨vs, h1, h.ro _ _ h3, h4⟩
 | fn f cs => exact hc
 | part r k a n => exact hc
theorem qaj.mv {X Y : Cx} (h : Reads2 X Y) {ρ : Env} : ∀ {l : List CV} {vs : List Value}, qaj X ρ l vs -> qaj Y ρ l vs
 | [], [], _ => trivial
 | _ :: _, _ :: _, hc => ⟨hc.1.mv h, qaj.mv h hc.2⟩
 | [], _ :: _, hc => hc.elim
 | _ :: _, [], hc => hc.elim
theorem SRel.mv {X Y : Cx} (h : Reads2 X Y) {ρ : Env} : ∀ {s : SV} {x : Value}, SRel X ρ s x -> SRel Y ρ s x
 | .one _, _, hc => CRel.mv h hc
 | .agg _, _, ⟨vs, h1, h2⟩ => ⟨vs, h1, h2.mv h⟩
theorem qa9.mv {X Y : Cx} (h : Reads2 X Y) {ρ : Env} : ∀ {l : List SV} {vs : List Value}, qa9 X ρ l vs -> qa9 Y ρ l vs
 | [], [], _ => trivial
 | _ :: _, _ :: _, hc => ⟨hc.1.mv h, qa9.mv h hc.2⟩
 | [], _ :: _, hc => hc.elim
 | _ :: _, [], hc => hc.elim
theorem TRel.mv {X Y : Cx} (h : Reads2 X Y) {ρ : Env} : ∀ {v : TV} {x : Value}, TRel X ρ v x -> TRel Y ρ v x
 | .sv _, _, hc => SRel.mv h hc
 | .tup _, _, ⟨vs, h1, h2⟩ => ⟨vs, h1, h2.mv h⟩
 | .gd _ _, _, hc => ⟨fun hb => SRel.mv h (hc.1 hb), hc.2⟩
theorem BRel.mv {X Y : Cx} (h : Reads2 X Y) {ρ : Env} {w : World} {r : Nat} : ∀ {b : Blk} {bs : List Nat}, BRel X ρ w r b bs -> BRel Y ρ w r b bs
 | .box T vs, bs, hb => by obtain ⟨g, cur, h1, h2, h3, h4⟩ := hb; exact ⟨g, cur, h1, h2, h3, h4.mv h⟩
 | .row T k l, bs, hb => hb
 | .pin q x, bs, hb => hb
 | .rro T k l, bs, hb => by obtain ⟨g, cur, k1, k2, k3, k4, k5, k6, k7⟩ := hb; exact ⟨g, cur, k1, k2, k3, k4, k5, k6, h.ro _ _ k7⟩
section
variable {P : Program} {X : Cx} {ρ : Env} {w : World} {m : ML} {tt : TT} {t : TL} {n : Nat} {a : Act} {g : Option Bool}
theorem qtq (htt : TTok P tt) {ok : Ok} (hok : OkS P X ok) {N ss : List Nat} {o : Oper} {s : Nat} {inp : Inp} {e : Eff} (he : qbn tt ok (selT t ss) (selM m N) s g inp o.op = some e) (hob : All e.ob) (hg : GT g) (hs : ∀ r ∈ e.al, ρ r = none) (hA : ARel X ρ n t a) (hM : MRel X ρ w m) (hW : WRel X w) :
  Does P X ρ w m e.al o a e.v e.wr := by
 obtain ⟨B, hB⟩ := hM
 have hFG : ∀ b, X.F b -> b < w.heap.size /\ ∀ q ∈ N, ∀ bq, lk m q = some (some bq) -> b ∉ B q := fun b hb => ⟨hW.lt b (X.hF b hb), fun q _ bq hq hbq => hB.nf q bq hq b hbq (X.hF b hb)⟩
 let Y : Cx := ⟨w, X.F, fun b => b < w.heap.size /\ ∀ q ∈ N, ∀ bq, lk m q = some (some bq) -> b ∉ B q, hFG, fun b h => h.1, X.H, X.Pt, X.hHP, fun b hb => ⟨hW.lt b (X.hPG b hb), fun q _ bq hq hbq => hB.nf q bq hq b hbq (X.hPG b hb)⟩, X.hHF, X.ds⟩
 have hXY : Reads2 X Y := ⟨fun d vs h1 => qkv hW h1⟩
 have hYX : Reads2 Y X := ⟨fun d vs h1 => qcm (fun b hb => (hW.frz b (X.hF b hb) (X.hHF b hb)).symm) (fun _ h => h) _ h1⟩
 have hAY : ARel Y ρ n (selT t ss) a := ⟨hA.size, hA.defers, fun q v hq => by
  obtain ⟨x, h1, h2⟩ := hA.at_ q v (qmg hq)
  exact ⟨x, h1, h2.mv hXY⟩⟩
 have hMY : MRelB Y ρ w (selM m N) B := by
  refine ⟨fun q bq hq => (hB.blk q bq (qel hq).1).mv hXY, fun q bq hq => hB.nd q bq (qel hq).1, fun q bq hq x hx hg => ?_, fun q q' bq bq' hne hq hq' => hB.dj q q' bq bq' hne (qel hq).1 (qel hq').1⟩
  exact hg.2 q (qel hq).2 bq (qel hq).1 hx
 intro K hK
 have hokY : OkS P Y ok := ⟨hok.fn, fun x hx => by
  obtain ⟨g1, g2, g3⟩ := hok.gl x hx
  exact ⟨(hW.frz x.g g2 g3).trans g1, ⟨hW.lt x.g g2, fun q _ bq hq hbq => hB.nf q bq hq x.g hbq g2⟩, g3⟩, hok.mt⟩
 refine qqa htt hokY he hob hg hs hAY ⟨B, hMY⟩ ⟨rfl, rfl, rfl, Nat.le_refl _, fun _ _ _ => rfl⟩ K ?_
 intro x w' ρ' k1 k2 k3 k4 k5
 obtain ⟨B', hB'⟩ := k4
 have hW' : WRel X w' := by
  refine ⟨k5.os.trans hW.os, k5.tape.trans hW.tape, k5.output.trans hW.output, Nat.le_trans hW.size k5.size, fun b hb hh => (k5.frz b ⟨hW.lt b hb, fun q _ bq hq hbq => hB.nf q bq hq b hbq hb⟩ hh).trans (hW.frz b hb hh)⟩
 refine hK x w' ρ' (fun tv htv => (k1 tv htv).mv hYX) k2 k3 ?_ hW'
 have hent : ∀ r b, lk (app e.wr m) r = some (some b) -> lk (app e.wr (selM m N)) r = some (some b) ∨ (lk m r = some (some b) /\ r ∉ N /\ lk e.wr r = none) := by
  intro r b h
  rw [qe4] at h
  cases hw : lk e.wr r with
  | some v =>
   rw [hw] at h
   exact .inl (by rw [qe4, hw]; exact h)
  | none =>
   rw [hw] at h
   by_cases hN : r ∈ N
   ·exact .inl (by rw [qe4, hw]; exact (qqe hN).trans h)
   ·exact .inr ⟨h, hN, rfl⟩
 have hkeep : ∀ r b, lk m r = some (some b) -> r ∉ N -> ∀ x ∈ B r, Y.G x := by
  intro r b hr hN x hx
  refine ⟨(hB.blk r b hr).lt x hx, fun q hq bq hbq hxq => hB.dj q r bq b (fun e => hN (e ▸ hq)) hbq hr x hxq hx⟩
 have hfirst : ∀ r b, lk (app e.wr (selM m N)) r = some (some b) -> (r ∈ N ∨ lk e.wr r ≠ none) := by
  intro r b h
  rw [qe4] at h
  cases hw : lk e.wr r with
  | some v => exact .inr (by simp)
  | none => rw [hw] at h; exact .inl (qel h).2
 open Classical in
 let Bn : Nat -> List Nat := fun r => if r ∈ N ∨ lk e.wr r ≠ none then B' r else B r
 have hb1 : ∀ r b, lk (app e.wr (selM m N)) r = some (some b) -> Bn r = B' r := fun r b h => if_pos (hfirst r b h)
 have hb2 : ∀ r, r ∉ N -> lk e.wr r = none -> Bn r = B r := fun r h1 h2 => if_neg (by rintro (h | h); exact h1 h; exact h h2)
 have hnG : ∀ r b, lk (app e.wr (selM m N)) r = some (some b) -> ∀ x ∈ B' r, ¬ X.G x := by
  intro r b h x hx hg
  refine hB'.nf r b h x hx ⟨hW.lt x hg, fun q _ bq hq hxq => hB.nf q bq hq x hxq hg⟩
 refine ⟨Bn, ?_, ?_, ?_, ?_⟩
 ·intro r b h
  rcases hent r b h with h | ⟨h1, h2, h3⟩
  ·rw [hb1 r b h]; exact (hB'.blk r b h).mv hYX
  ·rw [hb2 r h2 h3]; exact (hB.blk r b h1).same k2 (fun x hx => k5.frz x (hkeep r b h1 h2 x hx) (fun hh => hB.nf r b h1 x hx (X.hPG x (X.hHP x hh))))
 ·intro r b h
  rcases hent r b h with h | ⟨h1, h2, h3⟩
  ·rw [hb1 r b h]; exact hB'.nd r b h
  ·rw [hb2 r h2 h3]; exact hB.nd r b h1
 ·intro r b h
  rcases hent r b h with h | ⟨h1, h2, h3⟩
  ·rw [hb1 r b h]; exact hnG r b h
  ·rw [hb2 r h2 h3]; exact hB.nf r b h1
 ·intro r r' b b' hne h h'
  rcases hent r b h with h | ⟨h1, h2, h3⟩
  ·rcases hent r' b' h' with h' | ⟨h1', h2', h3'⟩
   ·rw [hb1 r b h, hb1 r' b' h']; exact hB'.dj r r' b b' hne h h'
   ·rw [hb1 r b h, hb2 r' h2' h3']
    exact fun x hx hx' => hB'.nf r b h x hx (hkeep r' b' h1' h2' x hx')
  ·rcases hent r' b' h' with h' | ⟨h1', h2', h3'⟩
   ·rw [hb2 r h2 h3, hb1 r' b' h']
    exact fun x hx hx' => hB'.nf r' b' h' x hx' (hkeep r b h1 h2 x hx)
   ·rw [hb2 r h2 h3, hb2 r' h2' h3']; exact hB.dj r r' b b' hne h1 h1'
end
structure Rc where
 o : Oper
 ss : List Nat
 N : List Nat
 g : Option Bool
 i : Inp
 e : Eff
 ob : List Prop
def opS : Operand -> List Nat
 | .tmp s => [s]
 | _ => []
def opsS : List Operand -> List Nat
 | [] => []
 | x :: l => app (opS x) (opsS l)
def qeg : List (Nat × Operand) -> List Nat
 | [] => []
 | (_, x) :: l => app (opS x) (qeg l)
def slotsOf : Op -> List Nat
 | .move x => opS x
 | .assign x => opS x
 | .pick c x y => app (opS c) (app (opS x) (opS y))
 | .box _ x => opS x
 | .build _ ps => qeg ps.toList
 | .buildSlice _ _ ps => qeg ps.toList
 | .load _ x => opS x
 | .store _ x y => app (opS x) (opS y)
 | .makeSlice _ x y => app (opS x) (opS y)
 | .slice _ x lo hi mx => app (opS x) (app (opsS lo.toList) (app (opsS hi.toList) (opsS mx.toList)))
 | .fieldAddr _ x _ => opS x
 | .field _ x _ => opS x
 | .indexAddr _ x y => app (opS x) (opS y)
 | .index _ x y => app (opS x) (opS y)
 | .binOp _ _ x y _ => app (opS x) (opS y)
 | .unOp _ _ x => opS x
 | .convert _ _ x => opS x
 | .extract x _ => opS x
 | .nilCheck x => opS x
 | .call c => match c.callee with
  | .invoke x _ => app (opS x) (opsS c.args.toList)
  | .value x => app (opS x) (opsS c.args.toList)
  | _ => opsS c.args.toList
 | .makeInterface _ x => opS x
 | .makeFunc _ _ cs => opsS cs.toList
 | _ => []
def qcd (all : List Oper) : Option (Nat × Bool) -> List Nat
 | none => []
 | some (j, _) => match nth all j with
  | some o => match o.dst with
   | some s => [s]
   | none => []
  | none => []
def qlr (tt : TT) (ok : Ok) (all : List Oper) (n : Nat) : List Oper -> List Inp -> TL -> ML -> List Nat -> Option (List Rc)
 | [], [], _, _, _ => some []
 | [], _ :: _, _, _, _ => none
 | o :: l, inps, t, m, u => match guardOf all (selT t (app (slotsOf o.op) (qcd all o.guard))) o.guard with
  | some g => match qf0 (needs t g o.op) inps with
   | some (i, inps') => match qbn tt ok t m (yg o.dst) g i o.op with
    | some ⟨_, _, _, N, _⟩ => match qbn tt ok (selT t (app (slotsOf o.op) (qcd all o.guard))) (selM m N) (yg o.dst) g i o.op with
     | some ⟨v, wr, al, us, ob⟩ => match qbo g v wr al, disj al u, qdt n o.dst v with
      | some ob1, true, true => match qlr tt ok all n l inps' (putT o.dst v t) (app wr m) (app al u) with
       | some rs => some (⟨o, app (slotsOf o.op) (qcd all o.guard), N, g, i, ⟨v, wr, al, us, ob⟩, ob1⟩ :: rs)
       | none => none
      | _, _, _ => none
     | none => none
    | none => none
   | none => none
  | none => none
def tF (L : Nat -> Bool) : List Rc -> TL -> TL
 | [], t => t
 | r :: rs, t => tF (fun j => L (j + 1)) rs (if L 0 = true then putT r.o.dst r.e.v t else t)
def mF (L : Nat -> Bool) : List Rc -> ML -> ML
 | [], m => m
 | r :: rs, m => mF (fun j => L (j + 1)) rs (if L 0 = true then app r.e.wr m else m)
def endT : List Rc -> TL -> TL
 | [], t => t
 | r :: rs, t => endT rs (putT r.o.dst r.e.v t)
def endM : List Rc -> ML -> ML
 | [], m => m
 | r :: rs, m => endM rs (app r.e.wr m)
def endU : List Rc -> List Nat -> List Nat
 | [], u => u
 | r :: rs, u => endU rs (app r.e.al u)
def obD : List Rc -> List Prop
 | [] => []
 | r :: rs => app r.ob (app r.e.ob (obD rs))
theorem qmh (d : Option Nat) (v : Option TV) (t : TL) (s : Nat) : lk (putT d v t) s = if d = some s /\ v ≠ none then v else lk t s := by
 cases d with
 | none => simp [putT]
 | some q =>
  cases v with
  | none => simp [putT]
  | some v =>
   show lk ((q, v) :: t) s = _
   rw [jy]
   by_cases e : q = s
   ·simp [e]
   ·simp [e]
theorem qhv {s : Nat} : ∀ {rs : List Rc} {L L' : Nat -> Bool} {t t' : TL}, (∀ (j : Nat) (r : Rc), rs[j]? = some r -> r.o.dst = some s -> r.e.v ≠ none -> L j = L' j) -> lk t s = lk t' s -> lk (tF L rs t) s = lk (tF L' rs t') s
 | [], _, _, _, _, _, h => h
 | r :: rs, L, L', t, t', hL, h => by
  show lk (tF (fun j => L (j + 1)) rs (if L 0 = true then putT r.o.dst r.e.v t else t)) s = lk (tF (fun j => L' (j + 1)) rs (if L' 0 = true then putT r.o.dst r.e.v t' else t')) s
  refine qhv (fun j r' hj => hL (j + 1) r' (by simpa using hj)) ?_
  have h0 := hL 0 r rfl
  by_cases hd : r.o.dst = some s /\ r.e.v ≠ none
  ·rw [h0 hd.1 hd.2]
   cases L' 0 with
   | true => simp only [if_true, qmh, if_pos hd]
   | false => simpa using h
  ·cases L 0 <;> cases L' 0 <;> simp [qmh, if_neg hd, h]
theorem qhw {q : Nat} : ∀ {rs : List Rc} {L L' : Nat -> Bool} {m m' : ML}, (∀ (j : Nat) (r : Rc), rs[j]? = some r -> lk r.e.wr q ≠ none -> L j = L' j) -> lk m q = lk m' q -> lk (mF L rs m) q = lk (mF L' rs m') q
 | [], _, _, _, _, _, h => h
 | r :: rs, L, L', m, m', hL, h => by
  show lk (mF (fun j => L (j + 1)) rs (if L 0 = true then app r.e.wr m else m)) q = lk (mF (fun j => L' (j + 1)) rs (if L' 0 = true then app r.e.wr m' else m')) q
  refine qhw (fun j r' hj => hL (j + 1) r' (by simpa using hj)) ?_
  have h0 := hL 0 r rfl
  cases hw : lk r.e.wr q with
  | none => cases L 0 <;> cases L' 0 <;> simp [qe4, hw, h]
  | some v =>
   rw [h0 (by rw [hw]; simp)]
   cases L' 0 with
   | true => simp [qe4, hw]
   | false => simpa using h
theorem qnk {t t' : TL} : ∀ {ss : List Nat}, (∀ s ∈ ss, lk t s = lk t' s) -> selT t ss = selT t' ss
 | [], _ => rfl
 | s :: l, h => by
  unfold selT
  rw [h s (by simp), qnk (fun x hx => h x (by simp [hx]))]
theorem qnl {t t' : ML} : ∀ {ss : List Nat}, (∀ s ∈ ss, lk t s = lk t' s) -> selM t ss = selM t' ss
 | [], _ => rfl
 | s :: l, h => by
  unfold selM
  rw [h s (by simp), qnl (fun x hx => h x (by simp [hx]))]
structure At (tt : TT) (ok : Ok) (all : List Oper) (n : Nat) (l : List Oper) (t : TL) (m : ML) (u : List Nat) (rs : List Rc) (i : Nat) (r : Rc) : Prop where
 op : l[i]? = some r.o
 gd : guardOf all (selT (tF (fun j => decide (j < i)) rs t) r.ss) r.o.guard = some r.g
 ev : qbn tt ok (selT (tF (fun j => decide (j < i)) rs t) r.ss) (selM (mF (fun j => decide (j < i)) rs m) r.N) (yg r.o.dst) r.g r.i r.o.op = some r.e
 go : qbo r.g r.e.v r.e.wr r.e.al = some r.ob
 al0 : ∀ x ∈ r.e.al, x ∉ u
 al1 : ∀ (j : Nat) (r' : Rc), j < i -> rs[j]? = some r' -> ∀ x ∈ r.e.al, x ∉ r'.e.al
 dst : qdt n r.o.dst r.e.v = true
 ob : All (obD rs) -> All r.ob /\ All r.e.ob
theorem qjy : ∀ {rs : List Rc} {t : TL}, tF (fun _ => false) rs t = t
 | [], _ => rfl
 | r :: rs, t => by show tF (fun _ => false) rs (if false = true then _ else t) = t; simp [qjy]
theorem qjz : ∀ {rs : List Rc} {t : ML}, mF (fun _ => false) rs t = t
 | [], _ => rfl
 | r :: rs, t => by show mF (fun _ => false) rs (if false = true then _ else t) = t; simp [qjz]
theorem qvk : ∀ {rs : List Rc} {t : TL}, tF (fun _ => true) rs t = endT rs t
 | [], _ => rfl
 | r :: rs, t => by show tF (fun _ => true) rs (if true = true then _ else t) = _; simp [qvk, endT]
theorem qvl : ∀ {rs : List Rc} {t : ML}, mF (fun _ => true) rs t = endM rs t
 | [], _ => rfl
 | r :: rs, t => by show mF (fun _ => true) rs (if true = true then _ else t) = _; simp [qvl, endM]
theorem qrq {tt : TT} {ok : Ok} {all : List Oper} {n : Nat} : ∀ {l : List Oper} {inps : List Inp} {t : TL} {m : ML} {u : List Nat} {rs : List Rc}, qlr tt ok all n l inps t m u = some rs -> rs.length = l.length /\ ∀ (i : Nat) (r : Rc), rs[i]? = some r -> At tt ok all n l t m u rs i r
 | [], [], t, m, u, rs, h => by
  simp [qlr] at h; subst h
  exact ⟨rfl, fun i r hr => by simp at hr⟩
 | [], _ :: _, _, _, _, _, h => by simp [qlr] at h
 | o :: l, inps, t, m, u, rs, h => by
  unfold qlr at h
  split at h
  ·rename_i g hg
   split at h
   ·rename_i i0 inps' hi
    split at h
    ·rename_i N _ h1
     split at h
     ·rename_i v wr al us ob hev
      split at h
      ·rename_i ob1 hgo hal hdst
       split at h
       ·rename_i rs' hrest
        obtain rfl := Option.some.inj h
        obtain ⟨hlen, hat⟩ := qrq hrest
        refine ⟨by simp [hlen], fun i r hr => ?_⟩
        cases i with
        | zero =>
         obtain rfl := Option.some.inj (show some _ = some r from hr)
         have e1 : ∀ (r0 : Rc), tF (fun j => decide (j < 0)) (r0 :: rs') t = t := fun r0 => by
          have : (fun j : Nat => decide (j < 0)) = fun _ => false := by funext j; simp
          rw [this]; exact qjy
         have e2 : ∀ (r0 : Rc), mF (fun j => decide (j < 0)) (r0 :: rs') m = m := fun r0 => by
          have : (fun j : Nat => decide (j < 0)) = fun _ => false := by funext j; simp
          rw [this]; exact qjz
         refine ⟨rfl, by rw [e1]; exact hg, by rw [e1, e2]; exact hev, hgo, qax hal, fun j _ hj => by omega, hdst, fun h => ?_⟩
         rw [obD, qy, qy] at h
         exact ⟨h.1, h.2.1⟩
        | succ i =>
         have hr' : rs'[i]? = some r := by simpa using hr
         have A := hat i r hr'
         have e1 : ∀ (r0 : Rc), tF (fun j => decide (j < i + 1)) (r0 :: rs') t = tF (fun j => decide (j < i)) rs' (putT r0.o.dst r0.e.v t) := fun r0 => by
          show tF (fun j => decide (j + 1 < i + 1)) rs' (if decide (0 < i + 1) = true then _ else t) = _
          simp
         have e2 : ∀ (r0 : Rc), mF (fun j => decide (j < i + 1)) (r0 :: rs') m = mF (fun j => decide (j < i)) rs' (app r0.e.wr m) := fun r0 => by
          show mF (fun j => decide (j + 1 < i + 1)) rs' (if decide (0 < i + 1) = true then _ else m) = _
          simp
         refine ⟨by simpa using A.op, by rw [e1]; exact A.gd, by rw [e1, e2]; exact A.ev, A.go, fun x hx hxu => A.al0 x hx (by rw [qan]; simp [hxu]), fun j r' hj hr2 x hx => ?_, A.dst, fun h => ?_⟩
         ·cases j with
          | zero =>
           obtain rfl := Option.some.inj (show some _ = some r' from hr2)
           intro hx'
           exact A.al0 x hx (by rw [qan]; simp [show x ∈ al from hx'])
          | succ j => exact A.al1 j r' (by omega) (by simpa using hr2) x hx
         ·rw [obD, qy, qy] at h
          exact A.ob h.2.2
       ·cases h
      ·cases h
     ·cases h
    ·cases h
   ·cases h
  ·cases h
def edL : List Edge -> List Nat
 | [] => []
 | e :: l => match Region.binds .any e with
  | true => e.on :: edL l
  | false => edL l
def insN (n : Nat) (l : List Nat) : List Nat := match hasN l n with | true => l | false => n :: l
def addN : List Nat -> List Nat -> List Nat
 | [], l => l
 | n :: k, l => addN k (insN n l)
def prOf (acc : List (List Nat)) : List Nat -> Option (List Nat)
 | [] => some []
 | j :: l => match nth acc j, prOf acc l with
  | some p, some q => some (insN j (addN p q))
  | _, _ => none
def qox : List Oper -> List (List Nat) -> Option (List (List Nat))
 | [], acc => some acc
 | o :: l, acc => match prOf acc (edL o.after.toList) with
  | some p => qox l (app acc [p])
  | none => none
theorem qrr {n x : Nat} {l : List Nat} : x ∈ insN n l ↔ x = n ∨ x ∈ l := by
 unfold insN
 split
 ·rename_i h
  have := (qcu l n).1 h
  constructor
  ·exact Or.inr
  ·rintro (rfl | h)
   ·exact this
   ·exact h
 ·simp
theorem qrs {x : Nat} : ∀ {k l : List Nat}, x ∈ addN k l ↔ x ∈ k ∨ x ∈ l
 | [], l => by simp [addN]
 | n :: k, l => by
  unfold addN
  rw [qrs, qrr, List.mem_cons]
  constructor
  ·rintro (h | h | h)
   ·exact .inl (.inr h)
   ·exact .inl (.inl h)
   ·exact .inr h
  ·rintro ((h | h) | h)
   ·exact .inr (.inl h)
   ·exact .inl h
   ·exact .inr (.inr h)
theorem qnm {acc : List (List Nat)} {x : Nat} : ∀ {l p : List Nat}, prOf acc l = some p -> (∀ j ∈ l, j < acc.length) /\ (x ∈ p -> x ∈ l ∨ ∃ j ∈ l, ∃ q, acc[j]? = some q /\ x ∈ q)
 | [], p, h => by simp [prOf] at h; subst h; simp
 | j :: l, p, h => by
  unfold prOf at h
  split at h
  ·rename_i p' q hj hl
   obtain rfl := Option.some.inj h
   rw [qm7] at hj
   obtain ⟨h1, h2⟩ := qnm (x := x) hl
   refine ⟨fun k hk => ?_, fun hx => ?_⟩
   ·rw [List.mem_cons] at hk
    rcases hk with rfl | hk
    ·exact (List.getElem?_eq_some_iff.1 hj).1
    ·exact h1 k hk
   ·rw [qrr, qrs] at hx
    rcases hx with rfl | hx | hx
    ·exact .inl (by simp)
    ·exact .inr ⟨j, by simp, p', hj, hx⟩
    ·rcases h2 hx with h | ⟨k, h3, h4⟩
     ·exact .inl (by simp [h])
     ·exact .inr ⟨k, by simp [h3], h4⟩
  ·cases h
def edAt (ops : List Oper) (i : Nat) : List Nat :=
 match ops[i]? with
 | some o => edL o.after.toList
 | none => []
structure Prs (ops : List Oper) (acc : List (List Nat)) : Prop where
 ed : ∀ i, i < acc.length -> ∀ j ∈ edAt ops i, j < i
 pr : ∀ (i : Nat) p, acc[i]? = some p -> ∀ x ∈ p, ∀ L : Nat -> Bool, (∀ k, L k = true -> ∀ e ∈ edAt ops k, L e = true) -> (∀ e ∈ edAt ops i, L e = true) -> L x = true
theorem qls {ops : List Oper} : ∀ {l : List Oper} {acc prs : List (List Nat)}, qox l acc = some prs -> (∀ i, l[i]? = ops[acc.length + i]?) -> acc.length + l.length = ops.length -> Prs ops acc -> Prs ops prs /\ prs.length = ops.length
 | [], acc, prs, h, _, hl, hP => by simp [qox] at h; subst h; exact ⟨hP, by simpa using hl⟩
 | o :: l, acc, prs, h, hi, hl, hP => by
  unfold qox at h
  split at h
  ·rename_i p hp
   have ho : ops[acc.length]? = some o := by simpa using (hi 0).symm
   have hed : edAt ops acc.length = edL o.after.toList := by unfold edAt; rw [ho]
   rw [qan] at h
   refine qls h (fun i => by rw [List.length_append]; have := hi (i + 1); simpa [Nat.add_assoc, Nat.add_comm 1 i] using this) (by simp at hl ⊢; omega) ⟨fun i hlt j hj => ?_, fun i q hq x hx L hL hE => ?_⟩
   ·rw [List.length_append] at hlt
    simp at hlt
    rcases Nat.lt_or_ge i acc.length with h' | h'
    ·exact hP.ed i h' j hj
    ·obtain rfl : i = acc.length := by omega
     rw [hed] at hj
     exact (qnm (x := 0) hp).1 j hj
   ·rcases Nat.lt_or_ge i acc.length with h' | h'
    ·rw [List.getElem?_append_left h'] at hq
     exact hP.pr i q hq x hx L hL hE
    ·rw [List.getElem?_append_right h'] at hq
     have : i = acc.length := by
      have := (List.getElem?_eq_some_iff.1 hq).1
      simp at this; omega
     subst this
     simp at hq
     subst hq
     rcases (qnm hp).2 hx with h | ⟨j, h1, q, h2, h3⟩
     ·exact hE x (by rw [hed]; exact h)
     ·exact hP.pr j q h2 x h3 L hL (hL j (hE j (by rw [hed]; exact h1)))
  ·cases h
def dstL (r : Rc) : List Nat := match r.o.dst, r.e.v with | some s, some _ => [s] | _, _ => []
def qhx (a b : Rc) : Bool :=
 match disj (dstL a) b.ss, disj (dstL b) a.ss, disj (dstL a) (dstL b), disj (keys a.e.wr) b.N, disj (keys b.e.wr) a.N, disj (keys a.e.wr) (keys b.e.wr) with
 | true, true, true, true, true, true => true
 | _, _, _, _, _, _ => false
def qrt (p : List Nat) (b : Rc) : List Rc -> Nat -> Bool
 | [], _ => true
 | a :: l, i => match hasN p i with
  | true => qrt p b l (i + 1)
  | false => match qhx a b with
   | true => qrt p b l (i + 1)
   | false => false
def qoy : List Rc -> List Rc -> List (List Nat) -> Bool
 | _, [], [] => true
 | prev, b :: l, p :: ps => match qrt p b prev 0 with
  | true => qoy (app prev [b]) l ps
  | false => false
 | _, _, _ => false
theorem qhy {p : List Nat} {b : Rc} : ∀ {l : List Rc} {k : Nat}, qrt p b l k = true -> ∀ (i : Nat) (a : Rc), l[i]? = some a -> k + i ∈ p ∨ qhx a b = true
 | [], _, _, i, a, h => by simp at h
 | x :: l, k, hc, i, a, h => by
  unfold qrt at hc
  cases i with
  | zero =>
   obtain rfl := Option.some.inj (show some x = some a from h)
   split at hc
   ·rename_i h1; exact .inl ((qcu _ _).1 h1)
   ·split at hc
    ·rename_i h2; exact .inr h2
    ·cases hc
  | succ i =>
   have h' : l[i]? = some a := by simpa using h
   have e : k + (i + 1) = k + 1 + i := by omega
   rw [e]
   split at hc
   ·exact qhy hc i a h'
   ·split at hc
    ·exact qhy hc i a h'
    ·cases hc
theorem qhz : ∀ {l : List Rc} {prev : List Rc} {ps : List (List Nat)}, qoy prev l ps = true -> ∀ (j : Nat) (b : Rc) p, l[j]? = some b -> ps[j]? = some p -> ∀ (i : Nat) (a : Rc), i < prev.length + j -> (prev ++ l)[i]? = some a -> i ∈ p ∨ qhx a b = true
 | [], _, _, _, j, b, p, h, _, _, _, _, _ => by simp at h
 | x :: l, prev, [], hc, _, _, _, _, h, _, _, _, _ => by simp at h
 | x :: l, prev, q :: ps, hc, j, b, p, hb, hp, i, a, hi, ha => by
  unfold qoy at hc
  split at hc
  ·rename_i h1
   cases j with
   | zero =>
    obtain rfl := Option.some.inj (show some x = some b from hb)
    obtain rfl := Option.some.inj (show some q = some p from hp)
    rw [List.getElem?_append_left (by omega)] at ha
    have := qhy h1 i a ha
    simpa using this
   | succ j =>
    rw [qan] at hc
    exact qhz hc j b p (by simpa using hb) (by simpa using hp) i a (by simp; omega) (by simpa using ha)
  ·cases hc
theorem qoz {a b : List Nat} (h : ∀ x ∈ a, x ∉ b) : ∀ x ∈ b, x ∉ a := fun x hx hx' => h x hx' hx
section
variable {P : Program} {F : Fr} {tt : TT} {R : St -> Prop} {k : List It}
def Inv (F : Fr) (rs : List Rc) (t : TL) (m : ML) (u : List Nat) (L : Nat -> Bool) (a : Act) (w : World) : Prop :=
 ∃ ρ, Ext F.ρ0 ρ /\ ARel F.X ρ F.n (tF L rs t) a /\ MRel F.X ρ w (mF L rs m) /\ (∀ r y, ρ r = some y -> r ∈ u ∨ ∃ (j : Nat) (r' : Rc), rs[j]? = some r' /\ L j = true /\ r ∈ r'.e.al) /\ WRel F.X w
theorem ARel.congr {X : Cx} {ρ : Env} {n : Nat} {t t' : TL} {a : Act} (h : ARel X ρ n t a) (he : ∀ s, lk t' s = lk t s) : ARel X ρ n t' a := ⟨h.size, h.defers, fun s v hs => h.at_ s v (by rw [← he]; exact hs)⟩
theorem MRel.congr {X : Cx} {ρ : Env} {w : World} {m m' : ML} (h : MRel X ρ w m) (he : ∀ r, lk m' r = lk m r) : MRel X ρ w m' := by
 obtain ⟨B, hB⟩ := h
 exact ⟨B, fun r b hr => hB.blk r b (by rw [← he]; exact hr), fun r b hr => hB.nd r b (by rw [← he]; exact hr), fun r b hr => hB.nf r b (by rw [← he]; exact hr), fun r r' b b' hne hr hr' => hB.dj r r' b b' hne (by rw [← he]; exact hr) (by rw [← he]; exact hr')⟩
def lst (listed : Array Bool) (j : Nat) : Bool := listed.getD j false
theorem qvm {listed : Array Bool} {i j : Nat} (hi : i < listed.size) : lst (listed.setIfInBounds i true) j = (decide (j = i) || lst listed j) := by
 unfold lst
 simp only [Array.getD_eq_getD_getElem?]
 by_cases h : j = i
 ·subst h
  rw [Array.getElem?_setIfInBounds_self_of_lt hi]; simp
 ·rw [Array.getElem?_setIfInBounds_ne (by omega)]; simp [h]
theorem qtr (htt : TTok P tt) {ops : List Oper} {t : TL} {m : ML} {u : List Nat} {rs : List Rc} {prs : List (List Nat)} (hat : ∀ (i : Nat) (r : Rc), rs[i]? = some r -> At tt (okX P F.X) ops F.n ops t m u rs i r) (hP : Prs ops prs) (hpl : prs.length = ops.length) (hrl : rs.length = ops.length)
  (hck : qoy [] rs prs = true) (hob : All (obD rs)) {L : Nat -> Bool} (hcl : ∀ k, L k = true -> ∀ e ∈ edAt ops k, L e = true) {i : Nat} {r : Rc} (hr : rs[i]? = some r) (hLi : L i = false) (hrd : ∀ e ∈ edAt ops i, L e = true) {a : Act} {w : World} (hI : Inv F rs t m u L a w)
  {K : Act -> World -> Prop} (hK : ∀ a' w', Inv F rs t m u (fun j => decide (j = i) || L j) a' w' -> K a' w') : if Region.wanted r.o (yielded ops.toArray a.tmps) = true then Co.OpK P F.X.H F.X.Pt r.o a w K else K (a.put r.o.dst undef) w := by
 have A := hat i r hr
 have hil : i < prs.length := by rw [hpl, ← hrl]; exact (List.getElem?_eq_some_iff.1 hr).1
 have ord : ∀ (j : Nat) (r' : Rc), rs[j]? = some r' -> j ≠ i -> qhx r' r = false ∨ qhx r r' = false -> L j = decide (j < i) := by
  intro j r' hj hne hd
  have hjl : j < prs.length := by rw [hpl, ← hrl]; exact (List.getElem?_eq_some_iff.1 hj).1
  have hsym : ∀ x y : Rc, qhx x y = true -> qhx y x = true := by
   intro x y hxy
   unfold qhx at hxy ⊢
   split at hxy
   ·rename_i h1 h2 h3 h4 h5 h6
    have s3 : disj (dstL y) (dstL x) = true := by
     have := qax h3
     have q : ∀ {l u : List Nat}, (∀ x ∈ l, x ∉ u) -> disj l u = true := by
      intro l u hl
      induction l with
      | nil => rfl
      | cons c l ih =>
       unfold disj
       cases hc : hasN u c with
       | true => exact absurd ((qcu u c).1 hc) (hl c (by simp))
       | false => exact ih (fun x hx => hl x (by simp [hx]))
     exact q (qoz this)
    have s6 : disj (keys y.e.wr) (keys x.e.wr) = true := by
     have := qax h6
     have q : ∀ {l u : List Nat}, (∀ x ∈ l, x ∉ u) -> disj l u = true := by
      intro l u hl
      induction l with
      | nil => rfl
      | cons c l ih =>
       unfold disj
       cases hc : hasN u c with
       | true => exact absurd ((qcu u c).1 hc) (hl c (by simp))
       | false => exact ih (fun x hx => hl x (by simp [hx]))
     exact q (qoz this)
    rw [h2, h1, s3, h5, h4, s6]
   ·cases hxy
  rcases Nat.lt_or_gt_of_ne hne with h | h
  ·
   have hp : prs[i]? = some prs[i] := List.getElem?_eq_getElem hil
   rcases qhz hck i r prs[i] hr hp j r' (by simpa using h) (by simpa using hj) with h1 | h1
   ·rw [hP.pr i _ hp j h1 L hcl hrd]; simp [h]
   ·rcases hd with hd | hd
    ·rw [hd] at h1; cases h1
    ·rw [hsym _ _ h1] at hd; cases hd
  ·
   have hp : prs[j]? = some prs[j] := List.getElem?_eq_getElem hjl
   rcases qhz hck j r' prs[j] hj hp i r (by simpa using h) (by simpa using hr) with h1 | h1
   ·cases hLj : L j with
    | true => rw [hP.pr j _ hp i h1 L hcl (hcl j hLj)] at hLi; cases hLi
    | false => simp; omega
   ·rcases hd with hd | hd
    ·rw [hsym _ _ h1] at hd; cases hd
    ·rw [hd] at h1; cases h1
 have dep : ∀ (x y : Rc), ((∃ s, (s ∈ dstL x /\ s ∈ y.ss) ∨ (s ∈ dstL x /\ s ∈ dstL y)) ∨ ∃ q, (q ∈ keys x.e.wr /\ q ∈ y.N) ∨ (q ∈ keys x.e.wr /\ q ∈ keys y.e.wr)) -> qhx x y = false := by
  intro x y h
  cases hxy : qhx x y with
  | false => rfl
  | true =>
   unfold qhx at hxy
   split at hxy
   ·rename_i h1 h2 h3 h4 h5 h6
    rcases h with ⟨s, ⟨h7, h8⟩ | ⟨h7, h8⟩⟩ | ⟨q, ⟨h7, h8⟩ | ⟨h7, h8⟩⟩
    ·exact absurd h8 (qax h1 s h7)
    ·exact absurd h8 (qax h3 s h7)
    ·exact absurd h8 (qax h4 q h7)
    ·exact absurd h8 (qax h6 q h7)
   ·cases hxy
 have hdstL : ∀ (r' : Rc) s, r'.o.dst = some s -> r'.e.v ≠ none -> s ∈ dstL r' := by
  intro r' s h1 h2
  unfold dstL
  cases hv : r'.e.v with
  | none => exact absurd hv h2
  | some v => rw [h1]; simp
 have hwrk : ∀ (r' : Rc) q, lk r'.e.wr q ≠ none -> q ∈ keys r'.e.wr := by
  intro r' q h
  cases hq : lk r'.e.wr q with
  | none => exact absurd hq h
  | some b => exact qbk hq
 have eT : selT (tF L rs t) r.ss = selT (tF (fun j => decide (j < i)) rs t) r.ss := qnk (fun s hs => qhv (fun j r' hj h1 h2 => by
  by_cases e : j = i
  ·subst e; rw [hLi]; simp
  ·exact ord j r' hj e (.inl (dep r' r (.inl ⟨s, .inl ⟨hdstL r' s h1 h2, hs⟩⟩)))) rfl)
 have eM : selM (mF L rs m) r.N = selM (mF (fun j => decide (j < i)) rs m) r.N := qnl (fun q hq => qhw (fun j r' hj h1 => by
  by_cases e : j = i
  ·subst e; rw [hLi]; simp
  ·exact ord j r' hj e (.inl (dep r' r (.inr ⟨q, .inl ⟨hwrk r' q h1, hq⟩⟩)))) rfl)
 obtain ⟨ρ, hE, hA, hM, hU, hW⟩ := hI
 obtain ⟨hob1, hob2⟩ := A.ob hob
 have hgd := A.gd
 have hev := A.ev
 rw [← eT] at hgd hev
 rw [← eM] at hev
 have hfr : ∀ x ∈ r.e.al, ρ x = none := by
  intro x hx
  cases hq : ρ x with
  | none => rfl
  | some y =>
   rcases hU x y hq with h | ⟨j, r', hj, hLj, hxj⟩
   ·exact absurd h (A.al0 x hx)
   ·by_cases e : j = i
    ·subst e; rw [hLi] at hLj; cases hLj
    ·rcases Nat.lt_or_gt_of_ne e with h | h
     ·exact absurd hxj (A.al1 j r' h hj x hx)
     ·exact absurd hx ((hat j r' hj).al1 i r h hr x hxj)
 have hAsel : ARel F.X ρ F.n (selT (tF L rs t) r.ss) a := ⟨hA.size, hA.defers, fun s v hs => hA.at_ s v (qmg hs)⟩
 obtain ⟨hw1, hw2⟩ := qf6 hgd hAsel
 have eT2 : ∀ s, lk (tF (fun j => decide (j = i) || L j) rs t) s = lk (putT r.o.dst r.e.v (tF L rs t)) s := by
  intro s
  rw [qmh]
  by_cases hd : r.o.dst = some s /\ r.e.v ≠ none
  ·rw [if_pos hd]
   have h1 : lk (tF (fun j => decide (j = i) || L j) rs t) s = lk (tF (fun j => decide (j < i + 1)) rs t) s := qhv (fun j r' hj h1 h2 => by
    by_cases e : j = i
    ·subst e; simp
    ·rw [ord j r' hj e (.inl (dep r' r (.inl ⟨s, .inr ⟨hdstL r' s h1 h2, hdstL r s hd.1 hd.2⟩⟩)))]
     simp [e]; omega) rfl
   rw [h1]
   have h2 : ∀ {rs : List Rc} {t : TL} {i : Nat}, rs[i]? = some r -> lk (tF (fun j => decide (j < i + 1)) rs t) s = r.e.v := by
    intro rs
    induction rs with
    | nil => intro t i h; simp at h
    | cons x l ih =>
     intro t i h
     cases i with
     | zero =>
      obtain rfl := Option.some.inj (show some x = some r from h)
      show lk (tF (fun j => decide (j + 1 < 0 + 1)) l (if decide (0 < 0 + 1) = true then _ else _)) s = _
      have : (fun j : Nat => decide (j + 1 < 0 + 1)) = fun _ => false := by funext j; simp
      rw [this, qjy]
      simp [qmh, hd]
     | succ i =>
      show lk (tF (fun j => decide (j + 1 < i + 1 + 1)) l _) s = _
      have : (fun j : Nat => decide (j + 1 < i + 1 + 1)) = fun j => decide (j < i + 1) := by funext j; simp
      rw [this]
      exact ih (by simpa using h)
   exact h2 hr
  ·rw [if_neg hd]
   refine qhv (fun j r' hj h1 h2 => ?_) rfl
   by_cases e : j = i
   ·subst e; rw [hr] at hj; obtain rfl := Option.some.inj hj; exact absurd ⟨h1, h2⟩ hd
   ·simp [e]
 have eM2 : ∀ q, lk (mF (fun j => decide (j = i) || L j) rs m) q = lk (app r.e.wr (mF L rs m)) q := by
  intro q
  rw [qe4]
  cases hq : lk r.e.wr q with
  | some b =>
   have h1 : lk (mF (fun j => decide (j = i) || L j) rs m) q = lk (mF (fun j => decide (j < i + 1)) rs m) q := qhw (fun j r' hj h1 => by
    by_cases e : j = i
    ·subst e; simp
    ·rw [ord j r' hj e (.inl (dep r' r (.inr ⟨q, .inr ⟨hwrk r' q h1, hwrk r q (by rw [hq]; simp)⟩⟩)))]
     simp [e]; omega) rfl
   rw [h1]
   have h2 : ∀ {rs : List Rc} {m : ML} {i : Nat}, rs[i]? = some r -> lk (mF (fun j => decide (j < i + 1)) rs m) q = some b := by
    intro rs
    induction rs with
    | nil => intro t i h; simp at h
    | cons x l ih =>
     intro t i h
     cases i with
     | zero =>
      obtain rfl := Option.some.inj (show some x = some r from h)
      show lk (mF (fun j => decide (j + 1 < 0 + 1)) l (if decide (0 < 0 + 1) = true then _ else _)) q = _
      have : (fun j : Nat => decide (j + 1 < 0 + 1)) = fun _ => false := by funext j; simp
      rw [this, qjz]
      simp [qe4, hq]
     | succ i =>
      show lk (mF (fun j => decide (j + 1 < i + 1 + 1)) l _) q = _
      have : (fun j : Nat => decide (j + 1 < i + 1 + 1)) = fun j => decide (j < i + 1) := by funext j; simp
      rw [this]
      exact ih (by simpa using h)
   exact h2 hr
  | none =>
   refine qhw (fun j r' hj h1 => ?_) rfl
   by_cases e : j = i
   ·subst e; rw [hr] at hj; obtain rfl := Option.some.inj hj; exact absurd hq h1
   ·simp [e]
 have next : ∀ x w' ρ', (∀ tv, r.e.v = some tv -> TRel F.X ρ' tv x) -> Ext ρ ρ' -> (∀ q y, ρ' q = some y -> ρ q = some y ∨ q ∈ r.e.al) -> MRel F.X ρ' w' (app r.e.wr (mF L rs m)) -> WRel F.X w' -> K (a.put r.o.dst x) w' := by
  intro x w' ρ' k1 k2 k3 k4 k5
  refine hK _ _ ⟨ρ', fun q y hq => k2 q y (hE q y hq), ((hA.ext k2).put' A.dst k1).congr eT2, k4.congr eM2, fun q y hq => ?_, k5⟩
  rcases k3 q y hq with h | h
  ·rcases hU q y h with h | ⟨j, r', h1, h2, h3⟩
   ·exact .inl h
   ·exact .inr ⟨j, r', h1, by simp [h2], h3⟩
  ·exact .inr ⟨i, r, hr, by simp, h⟩
 cases hwt : Region.wanted r.o (yielded ops.toArray a.tmps) with
 | true =>
  rw [if_pos rfl]
  exact qtq htt (qtm P F.X) hev hob2 (hw1 hwt) hfr hA hM hW _ next
 | false =>
  rw [if_neg (by simp)]
  have hgf := hw2 hwt
  have hgo := A.go
  rw [hgf] at hgo
  unfold qbo at hgo
  split at hgo
  ·rename_i h1; cases h1
  ·rename_i b b' s' h1 hv hwr hal
   have hbo := Option.some.inj hgo
   rw [← hbo] at hob1
   obtain ⟨hb', _⟩ := hob1
   have hbf : b = false := (Option.some.inj h1).symm
   refine next undef w ρ (fun tv htv => ?_) (Ext.refl ρ) (fun _ _ h => .inl h) (by rw [hwr]; exact hM) hW
   rw [hv] at htv
   obtain rfl := Option.some.inj htv
   exact ⟨(fun h => by rw [hb', hbf] at h; cases h), fun _ => rfl⟩
  ·rename_i b h1 _
   have hbo := Option.some.inj hgo
   rw [← hbo] at hob1
   have h2 : b = true := hob1.1
   have h3 : b = false := (Option.some.inj h1).symm
   rw [h2] at h3; cases h3
theorem qru : ∀ {rs : List Rc} {u : List Nat} {x : Nat}, (x ∈ u ∨ ∃ (j : Nat) (r : Rc), rs[j]? = some r /\ x ∈ r.e.al) -> x ∈ endU rs u
 | [], u, x, h => by
  rcases h with h | ⟨j, r, h, _⟩
  ·exact h
  ·simp at h
 | r0 :: rs, u, x, h => by
  refine qru (rs := rs) ?_
  rw [qan]
  rcases h with h | ⟨j, r, h, hx⟩
  ·exact .inl (by simp [h])
  ·cases j with
   | zero => obtain rfl := Option.some.inj (show some r0 = some r from h); exact .inl (by simp [hx])
   | succ j => exact .inr ⟨j, r, by simpa using h, hx⟩
theorem qqf : ∀ {l : List Edge} {e : Edge}, e ∈ l -> Region.binds .any e = true -> e.on ∈ edL l
 | x :: l, e, h, hb => by
  unfold edL
  rw [List.mem_cons] at h
  rcases h with rfl | h
  ·rw [hb]; simp
  ·split
   ·simp [qqf h hb]
   ·exact qqf h hb
theorem qts : ∀ {l : List Edge} {n : Nat}, n ∈ edL l -> ∃ e ∈ l, Region.binds .any e = true /\ e.on = n
 | x :: l, n, h => by
  unfold edL at h
  split at h
  ·rename_i hb
   rw [List.mem_cons] at h
   rcases h with rfl | h
   ·exact ⟨x, by simp, hb, rfl⟩
   ·obtain ⟨e, h1, h2⟩ := qts h; exact ⟨e, by simp [h1], h2⟩
  ·obtain ⟨e, h1, h2⟩ := qts h; exact ⟨e, by simp [h1], h2⟩
 | [], n, h => by cases h
theorem qak (htt : TTok P tt) (hmix : P.follows .mixedOrders = true) {id : Nat} {ops : List Oper} {inps : List Inp} {t t' : TL} {m m' : ML} {u u' : List Nat} {rs : List Rc} {prs : List (List Nat)} {ob : List Prop} (h1 : qlr tt (okX P F.X) ops F.n ops inps t m u = some rs) (h2 : qox ops [] = some prs) (h3 : qoy [] rs prs = true) (h4 : obD rs = ob) (h5 : endT rs t = t') (h6 : endM rs m = m') (h7 : endU rs u = u')
  (ho : All ob) (h : AR P F R k ⟨t', m', u'⟩) : AR P F R (.code (.region id ⟨ops⟩ true) :: k) ⟨t, m, u⟩ := by
 subst h4 h5 h6 h7
 obtain ⟨hrl, hat⟩ := qrq h1
 obtain ⟨hP, hpl⟩ := qls (ops := ops) h2 (fun i => by simp) (by simp) ⟨fun i hi => by simp at hi, fun i p hp => by simp at hp⟩
 intro a w hS
 refine Co.qyo hmix fun w₁ h₁ => ?_
 have key : ∀ (fuel : Nat) (listed : Array Bool) (a : Act) (w : World), listed.size = ops.length -> listed.toList.countP (fun b => !b) <= fuel -> (∀ k, lst listed k = true -> ∀ e ∈ edAt ops k, lst listed e = true) -> Inv F rs t m u (lst listed) a w →
   Co.qi2 P F.X.H F.X.Pt .any ops.toArray (kont P F R k) fuel listed a w := by
  have done : ∀ (listed : Array Bool) (a : Act) (w : World), listed.size = ops.length -> (∀ i, i < ops.length -> lst listed i = true) -> Inv F rs t m u (lst listed) a w -> kont P F R k .normal a w := by
   intro listed a w hsz hall hI
   obtain ⟨ρ, hE, hA, hM, hU, hW⟩ := hI
   refine h a w ⟨ρ, hE, hA.congr (fun s => ?_), hM.congr (fun q => ?_), fun r y hr => qru ?_, hW⟩
   ·show lk (endT rs t) s = _
    rw [← qvk]
    refine qhv (fun j r' hj _ _ => ?_) rfl
    rw [hall j (by rw [← hrl]; exact (List.getElem?_eq_some_iff.1 hj).1)]
   ·show lk (endM rs m) q = _
    rw [← qvl]
    refine qhw (fun j r' hj _ => ?_) rfl
    rw [hall j (by rw [← hrl]; exact (List.getElem?_eq_some_iff.1 hj).1)]
   ·rcases hU r y hr with h | ⟨j, r', h1, _, h3⟩
    ·exact .inl h
    ·exact .inr ⟨j, r', h1, h3⟩
  have none : ∀ (listed : Array Bool), listed.size = ops.length -> (∀ k, lst listed k = true -> ∀ e ∈ edAt ops k, lst listed e = true) -> Region.ready .any ops.toArray listed = [] -> ∀ i, i < ops.length -> lst listed i = true := by
   intro listed hsz hcl hr i
   induction i using Nat.strongRecOn with
   | _ i ih =>
    intro hi
    cases hl : lst listed i with
    | true => rfl
    | false =>
     exfalso
     have hmem : i ∈ Region.ready .any ops.toArray listed := by
      rw [mem_ready]
      refine ⟨?_, ops[i], by simp [hi], fun e he hb => ?_⟩
      ·unfold lst at hl
       rw [Array.getD_eq_getD_getElem?, Array.getElem?_eq_getElem (by omega)] at hl ⊢
       exact hl
      ·have hed : e.on ∈ edAt ops i := by
        unfold edAt
        rw [List.getElem?_eq_getElem hi]
        exact qqf (by simpa using he) hb
       have hlt := hP.ed i (by omega) _ hed
       exact ih _ hlt (by omega)
     rw [hr] at hmem
     cases hmem
  have step : ∀ (fuel : Nat), (∀ (listed : Array Bool) (a : Act) (w : World), listed.size = ops.length -> listed.toList.countP (fun b => !b) <= fuel -> (∀ k, lst listed k = true -> ∀ e ∈ edAt ops k, lst listed e = true) -> Inv F rs t m u (lst listed) a w -> Co.qi2 P F.X.H F.X.Pt .any ops.toArray (kont P F R k) fuel listed a w) →
    ∀ (listed : Array Bool) (a : Act) (w : World), listed.size = ops.length -> listed.toList.countP (fun b => !b) <= fuel + 1 -> (∀ k, lst listed k = true -> ∀ e ∈ edAt ops k, lst listed e = true) -> Inv F rs t m u (lst listed) a w -> ∀ i ∈ Region.ready .any ops.toArray listed, Co.qu2 P F.X.H F.X.Pt ops.toArray i (Co.qi2 P F.X.H F.X.Pt .any ops.toArray (kont P F R k) fuel (listed.setIfInBounds i true)) a w := by
   intro fuel ih listed a w hsz hct hcl hI i hi
   rw [mem_ready] at hi
   obtain ⟨hli, o, ho', hed⟩ := hi
   have ho2 : ops[i]? = some o := by simpa using ho'
   have hil : i < ops.length := (List.getElem?_eq_some_iff.1 ho2).1
   have hr : rs[i]? = some (rs[i]'(by omega)) := List.getElem?_eq_getElem (by omega)
   generalize rs[i]'(by omega) = r at hr
   have A := hat i r hr
   have hro : r.o = o := by have := A.op; rw [ho2] at this; exact (Option.some.inj this).symm
   have hLi : lst listed i = false := by
    unfold lst
    rw [Array.getD_eq_getD_getElem?, Array.getElem?_eq_getElem (by omega)] at hli ⊢
    exact hli
   have hrd : ∀ e ∈ edAt ops i, lst listed e = true := by
    intro n hn
    unfold edAt at hn
    rw [ho2] at hn
    obtain ⟨e, h8, h9, rfl⟩ := qts hn
    exact hed e (by simpa using h8) h9
   have hgoal := qtr htt hat hP hpl hrl h3 ho hcl hr hLi hrd hI (K := Co.qi2 P F.X.H F.X.Pt .any ops.toArray (kont P F R k) fuel (listed.setIfInBounds i true)) (fun a' w' hI' => by
    have hfun : (fun j => decide (j = i) || lst listed j) = lst (listed.setIfInBounds i true) := by funext j; rw [qvm (by omega)]
    rw [hfun] at hI'
    refine ih _ a' w' (by rw [Array.size_setIfInBounds]; exact hsz) ?_ ?_ hI'
    ·rw [Array.toList_setIfInBounds, List.countP_set (by rw [Array.length_toList]; omega)]
     have hgi : listed.toList[i]'(by rw [Array.length_toList]; omega) = false := by
      unfold lst at hLi
      rw [Array.getD_eq_getD_getElem?, Array.getElem?_eq_getElem (by omega)] at hLi
      simpa using hLi
     rw [hgi]
     show _ - (if (!false) = true then 1 else 0) + (if (!true) = true then 1 else 0) <= fuel
     have e1 : (if (!false) = true then 1 else 0) = 1 := rfl
     have e2 : (if (!true) = true then 1 else 0) = 0 := rfl
     rw [e1, e2]
     omega
    ·intro k' hk' e he
     rw [qvm (by omega)] at hk' ⊢
     simp only [Bool.or_eq_true, decide_eq_true_eq] at hk' ⊢
     rcases hk' with rfl | hk'
     ·exact .inr (hrd e he)
     ·exact .inr (hcl k' hk' e he))
   unfold Co.qu2
   rw [ho']
   rw [hro] at hgoal
   simp only
   split at hgoal
   ·rename_i hw; rw [if_pos hw]; exact hgoal
   ·rename_i hw; rw [if_neg hw]; exact hgoal
  intro fuel
  induction fuel with
  | zero =>
   intro listed a w hsz hct hcl hI
   have hall : ∀ i, i < ops.length -> lst listed i = true := by
    intro i hi
    have hc0 : listed.toList.countP (fun b => !b) = 0 := by omega
    rw [List.countP_eq_zero] at hc0
    unfold lst
    rw [Array.getD_eq_getD_getElem?, Array.getElem?_eq_getElem (by omega)]
    have := hc0 (listed[i]'(by omega)) (by simp)
    simpa using this
   have hre : Region.ready .any ops.toArray listed = [] := by
    cases hr : Region.ready .any ops.toArray listed with
    | nil => rfl
    | cons i l =>
     have hmem : i ∈ Region.ready .any ops.toArray listed := by rw [hr]; simp
     rw [mem_ready] at hmem
     obtain ⟨hli, o, ho', _⟩ := hmem
     have hil : i < ops.length := by have := (Array.getElem?_eq_some_iff.1 ho').1; simpa using this
     have := hall i hil
     unfold lst at this
     rw [Array.getD_eq_getD_getElem?, Array.getElem?_eq_getElem (by omega)] at this hli
     simp at this hli
     rw [this] at hli; cases hli
   exact ⟨hre, done listed a w hsz hall hI⟩
  | succ fuel ih =>
   intro listed a w hsz hct hcl hI
   exact ⟨fun hre => done listed a w hsz (none listed hsz hcl hre) hI, step fuel ih listed a w hsz hct hcl hI⟩
 obtain ⟨ρ, hE, hA, hM, hU, hW⟩ := hS
 have hLf : lst (Array.replicate ops.toArray.size false) = fun _ => false := by
  funext j
  unfold lst
  rw [Array.getD_eq_getD_getElem?, Array.getElem?_replicate]
  split <;> rfl
 refine key _ _ a _ (by simp) ?_ (fun k' hk' => by rw [hLf] at hk'; cases hk') ?_
 ·refine Nat.le_trans List.countP_le_length ?_
  simp
 ·rw [hLf]
  refine ⟨ρ, hE, by rw [qjy]; exact hA, ?_, fun r y hr => .inl (hU r y hr), hW.aside h₁⟩
  rw [qjz]
  exact hM.aside h₁
end
def cxOf (w : World) : Cx := ⟨w, (· < w.heap.size), (· < w.heap.size), fun _ h => h, fun _ h => h, fun _ => False, fun _ => False, fun _ h => h, fun _ h => h.elim, fun _ _ h => h, []⟩
def qrv : Env := fun _ => none
def ro {α : Type} (T k : Nat) (E : α -> D) (l : List α) : CV := .ro T k l.length (D.cat (l.map E))
def litC : CV -> Option Value
 | .lit v => some v
 | _ => none
def qrw : List CV -> Option (List Value)
 | [] => some []
 | c :: l => match litC c, qrw l with
  | some v, some vs => some (v :: vs)
  | _, _ => none
def litS : SV -> Option Value
 | .one c => litC c
 | .agg l => match qrw l with
  | some vs => some (.agg vs.toArray)
  | none => none
def qrx : List SV -> Option (List Value)
 | [] => some []
 | c :: l => match litS c, qrx l with
  | some v, some vs => some (v :: vs)
  | _, _ => none
def litT : TV -> Option Value
 | .sv s => litS s
 | .tup l => match qrx l with
  | some vs => some (.tuple vs.toArray)
  | none => none
 | .gd _ _ => none
variable {X : Cx} {ρ : Env} {P : Program} {w : World}
theorem qnn {c : CV} {x v : Value} (h : litC c = some v) (hr : CRel X ρ c x) : x = v := by
 cases c <;> simp [litC] at h
 subst h
 exact hr.1
theorem qlt : ∀ {l : List CV} {xs vs : List Value}, qrw l = some vs -> qaj X ρ l xs -> xs = vs
 | [], [], vs, h, _ => by simp [qrw] at h; exact h.symm
 | c :: l, x :: xs, vs, h, hr => by
  unfold qrw at h
  split at h
  ·rename_i v vs' h1 h2
   obtain rfl := Option.some.inj h
   rw [qnn h1 hr.1, qlt h2 hr.2]
  ·cases h
theorem qno {s : SV} {x v : Value} (h : litS s = some v) (hr : SRel X ρ s x) : x = v := by
 cases s with
 | one c => exact qnn h hr
 | agg l =>
  unfold litS at h
  obtain ⟨xs, rfl, hr⟩ := hr
  dsimp only at h
  split at h
  ·rename_i vs h1
   obtain rfl := Option.some.inj h
   rw [← qlt h1 hr]
  ·cases h
theorem qlu : ∀ {l : List SV} {xs vs : List Value}, qrx l = some vs -> qa9 X ρ l xs -> xs = vs
 | [], [], vs, h, _ => by simp [qrx] at h; exact h.symm
 | c :: l, x :: xs, vs, h, hr => by
  unfold qrx at h
  split at h
  ·rename_i v vs' h1 h2
   obtain rfl := Option.some.inj h
   rw [qno h1 hr.1, qlu h2 hr.2]
  ·cases h
theorem qtt {t : TV} {x v : Value} (h : litT t = some v) (hr : TRel X ρ t x) : x = v := by
 cases t with
 | sv s => exact qno h hr
 | tup l =>
  unfold litT at h
  obtain ⟨xs, rfl, hr⟩ := hr
  dsimp only at h
  split at h
  ·rename_i vs h1
   obtain rfl := Option.some.inj h
   rw [← qlu h1 hr]
  ·cases h
 | gd b s => cases h
theorem qzc {w : World} : MRel (cxOf w) qrv w [] :=
 ⟨fun _ => [], { blk := fun _ _ h => (nomatch h), nd := fun _ _ h => (nomatch h), nf := fun _ _ h => (nomatch h), dj := fun _ _ _ _ _ h => (nomatch h) }⟩
theorem qtu {w w' : World} (h : WRel (cxOf w) w') : Below w.heap.size w w' := ⟨h.os, h.tape, h.output, h.size, fun k hk => h.frz k hk (fun h => h)⟩
def delL {α : Type} (s : Nat) : List (Nat × α) -> List (Nat × α)
 | [] => []
 | (k, v) :: l => match Nat.beq k s with
  | true => delL s l
  | false => (k, v) :: delL s l
def ded {α : Type} : List (Nat × α) -> List (Nat × α)
 | [] => []
 | (k, v) :: l => (k, v) :: delL k (ded l)
def menC (ks : List Nat) : CV -> Bool
 | .hd r => hasN ks r
 | .el r _ _ _ => hasN ks r
 | .part r _ _ _ => hasN ks r
 | _ => false
def jv (ks : List Nat) : List CV -> Bool
 | [] => false
 | c :: l => match menC ks c with | true => true | false => jv ks l
def menS (ks : List Nat) : SV -> Bool
 | .one c => menC ks c
 | .agg l => jv ks l
def jw (ks : List Nat) : List SV -> Bool
 | [] => false
 | c :: l => match menS ks c with | true => true | false => jw ks l
def menT (ks : List Nat) : TV -> Bool
 | .sv s => menS ks s
 | .tup l => jw ks l
 | .gd _ s => menS ks s
def jo (ks : List Nat) : TL -> TL
 | [] => []
 | (s, v) :: l => match menT ks v with
  | true => jo ks l
  | false => (s, v) :: jo ks l
def St.over (σ : St) (T : TL) (M : ML) : St := ⟨ded (app T (jo (keys M) (ded σ.t))), ded (app M σ.m), σ.u⟩
theorem qzd {F : Fr} {σ0 σ : St} {π : List (Nat × Nat)} {o : List Prop} (hπ : mpM σ0.m σ.m (mpTL σ0.t σ.t []) = π) (h : wkOb F.base σ0 σ π = some o) (ho : All o) : ∃ f, Wk F σ0 σ f := by subst hπ; exact ⟨_, q20 h ho⟩
theorem qo0 {tt : TT} {rs : List ResultVar} {c : CFD} {σ : St} {vs : List SV} {π : List (Nat × Nat)} {ob o : List Prop} (h1 : qiy tt σ.t σ.m rs = some (vs, ob)) (hπ : mpM c.post σ.m (mpT c.res (resT vs) (idN (keys c.pre))) = π) (h2 : qlq c σ vs π = some o) (ho : All (app ob o)) : Fin tt rs c σ := by subst hπ; exact qzb h1 h2 ho
section
variable {P : Program} {F : Fr} {R : St -> Prop} {k : List It} {σ : St}
theorem q21 {c : Code} (n : Nat) (Iv : Nat -> Prop) (T : Nat -> TL) (M : Nat -> ML) (h0 : Iv 0) (hw : ∃ f0, Wk F (σ.over (T 0) (M 0)) σ f0)
  (hr : ∀ i, i <= n -> Iv i -> AR P F R (.code c :: .until (fun σ' => (i < n /\ Iv (i + 1)) /\ ∃ f1, Wk F (σ.over (T (i + 1)) (M (i + 1))) σ' f1) :: k) (σ.over (T i) (M i))) : AR P F R (.code (.loop c) :: k) σ := by
 obtain ⟨f0, hw⟩ := hw
 refine q2y (fun j s => ∃ i, i <= n /\ Iv i /\ j = n - i /\ s = σ.over (T i) (M i)) (n - 0) hw ⟨0, Nat.zero_le _, h0, rfl, rfl⟩ ?_
 rintro j s ⟨i, hi, hI, rfl, rfl⟩ a w hS
 have h := hr i hi hI a w hS
 have up : ∀ {G G' : St -> Prop}, (∀ s, G s -> G' s) -> ∀ {e a w}, kont P F R (.until G :: k) e a w -> kont P F R (.until G' :: k) e a w := by
  intro G G' hg e a w hq
  cases e with
  | normal => obtain ⟨s, h1, h2⟩ := hq; exact ⟨s, hg s h1, h2⟩
  | exit id => exact hq
  | goto l => exact hq
  | ret => exact hq
  | panic ch => exact hq
  | outgrown => exact hq
 refine Co.qfh h (fun e a' w' hq => up ?_ hq)
 rintro s' ⟨⟨h1, hI'⟩, f1, h2⟩
 exact ⟨n - (i + 1), _, f1, by omega, ⟨i + 1, h1, hI', rfl, rfl⟩, h2⟩
theorem qai {c : Code} (n : Nat) (Iv : Nat -> Prop) (T : Nat -> TL) (M : Nat -> ML)
  (hr : ∀ i, i <= n -> Iv i -> AR P F R (.code c :: .until (fun σ' => (i < n /\ Iv (i + 1)) /\ ∃ f1, Wk F (σ.over (T (i + 1)) (M (i + 1))) σ' f1) :: k) (σ.over (T i) (M i))) (h0 : Iv 0) (hw : ∃ f0, Wk F (σ.over (T 0) (M 0)) σ f0) : AR P F R (.code (.loop c) :: k) σ := q21 n Iv T M h0 hw hr
theorem qvn {w : World} {T k : Nat} : Own w (rowC T k []) [.slice none 0 0] [] := ⟨_, [], [], [], rfl, rfl, ⟨rfl, rfl⟩, .inl ⟨⟨none, rfl⟩, rfl, rfl, rfl⟩⟩
theorem qnp {s T q : Nat} {t : TL} {m : ML} {u : List Nat} {r : Nat} (ht : lk t s = some (.sv (.one (.lit (.slice none 0 0))))) (hu : hasN u r = false)
  (h : AR P F R k ⟨(s, .sv (.one (.hd r))) :: t, (r, some (.row T q [])) :: m, r :: u⟩) : AR P F R k ⟨t, m, u⟩ := by
 rintro a w ⟨ρ, hE, hA, ⟨B, hB⟩, hU, hW⟩
 have hn : ρ r = none := by
  cases e : ρ r with
  | none => rfl
  | some y => exact absurd (hU r y e) (qco hu)
 have hx := qfm (x := Value.slice none 0 0) hn
 refine h a w ⟨putE ρ r (.slice none 0 0), fun q y hq => hx q y (hE q y hq), ?_, ?_, ?_, hW⟩
 ·refine ⟨hA.size, hA.defers, fun s' v hv => ?_⟩
  rw [jy] at hv
  by_cases e : s = s'
  ·subst e
   rw [if_pos rfl] at hv
   obtain rfl := Option.some.inj hv
   obtain ⟨x, h1, h2⟩ := hA.at_ s _ ht
   obtain ⟨rfl, _⟩ : x = .slice none 0 0 /\ _ := h2
   exact ⟨_, h1, qdk _ _ _, rfl⟩
  ·rw [if_neg e] at hv
   obtain ⟨x, h1, h2⟩ := hA.at_ s' v hv
   exact ⟨x, h1, h2.ext hx⟩
 ·refine ⟨_, hB.upd hx r (.row T q []) [] [] (fun _ h => by cases h) ⟨_, qdk _ _ _, qvn, by simp, by simp⟩ (by simp) (fun x h => by cases h) hW.lt (fun _ _ _ => rfl) ?_⟩
  intro q' bq hq
  rw [jy] at hq
  by_cases e : r = q'
  ·rw [if_pos e] at hq; exact .inl ⟨e.symm, by simpa using hq.symm⟩
  ·rw [if_neg e] at hq; exact .inr ⟨fun e' => e e'.symm, by simp, hq⟩
 ·intro q' y hq
  rcases qee q' y hq with h | h
  ·exact List.mem_cons_of_mem _ (hU q' y h)
  ·rw [List.mem_singleton] at h; simp [h]
def qay (mask : Nat) : TL -> TL
 | [] => []
 | (s, v) :: l => match Nat.beq (Nat.land (Nat.shiftRight mask s) 1) 1 with
  | true => (s, v) :: qay mask l
  | false => qay mask l
theorem qj0 {mask : Nat} : ∀ {t : TL} {s : Nat} {v : TV}, lk (qay mask t) s = some v -> lk t s = some v /\ Nat.beq (Nat.land (Nat.shiftRight mask s) 1) 1 = true
 | [], _, _, h => by cases h
 | (q, u) :: l, s, v, h => by
  rw [jy]
  unfold qay at h
  split at h
  ·rename_i hq
   rw [jy] at h
   by_cases e : q = s
   ·rw [if_pos e] at h ⊢; exact ⟨h, e ▸ hq⟩
   ·rw [if_neg e] at h ⊢; exact qj0 h
  ·rename_i hq
   obtain ⟨h1, h2⟩ := qj0 h
   have e : ¬ q = s := fun e => by rw [e, h2] at hq; cases hq
   rw [if_neg e]
   exact ⟨h1, h2⟩
theorem qaf (mask : Nat) {t t' : TL} {m : ML} {u : List Nat} (ht : qay mask t = t') (h : AR P F R k ⟨t', m, u⟩) : AR P F R k ⟨t, m, u⟩ := by
 rintro a w ⟨ρ, hE, hA, hM, hU, hW⟩
 exact h a w ⟨ρ, hE, ⟨hA.size, hA.defers, fun s v hs => hA.at_ s v (qj0 (ht ▸ hs)).1⟩, hM, hU, hW⟩
theorem q7x (r : Nat) {T q : Nat} {l : List D} (l' : List D) {t : TL} {m : ML} {u : List Nat} (hm : lk m r = some (some (.row T q l))) (he : l = l') (h : AR P F R k ⟨t, (r, some (.row T q l')) :: m, u⟩) : AR P F R k ⟨t, m, u⟩ := by
 subst he
 rintro a w ⟨ρ, hE, hA, hM, hU, hW⟩
 refine h a w ⟨ρ, hE, hA, ?_, hU, hW⟩
 obtain ⟨B, hB⟩ := hM
 have key : ∀ q', lk ((r, some (Blk.row T q l)) :: m) q' = lk m q' := by
  intro q'
  rw [jy]
  by_cases e : r = q'
  ·rw [if_pos e, ← e, hm]
  ·rw [if_neg e]
 exact ⟨B, fun q' b h => hB.blk q' b (by rw [← key]; exact h), fun q' b h => hB.nd q' b (by rw [← key]; exact h), fun q' b h => hB.nf q' b (by rw [← key]; exact h), fun q1 q2 b1 b2 hne h1 h2 => hB.dj q1 q2 b1 b2 hne (by rw [← key]; exact h1) (by rw [← key]; exact h2)⟩
theorem ARel.tell {X : Cx} {ρ : Env} {n : Nat} {t : TL} {a : Act} (h : ARel X ρ n t a) {s : Nat} {v : TV} {x : Value} (hx : a.tmps[s]? = some x) (hv : TRel X ρ v x) : ARel X ρ n ((s, v) :: t) a := by
 refine ⟨h.size, h.defers, fun q v' hq => ?_⟩
 rw [jy] at hq
 by_cases e : s = q
 ·subst e
  rw [if_pos rfl] at hq
  obtain rfl := Option.some.inj hq
  exact ⟨x, hx, hv⟩
 ·rw [if_neg e] at hq
  exact h.at_ q v' hq
theorem qj1 {s T k' n : Nat} {c : D} {t : TL} {m : ML} {u : List Nat} (ht : lk t s = some (.sv (.one (.ro T k' n c))))
  (h1 : n = 0 -> c = .nil -> AR P F R k ⟨(s, .sv (.one (.lit (.slice none 0 0)))) :: t, m, u⟩)
  (h2 : ∀ ad cap, RdO F.X.w0 F.X.F (.row T k' n c .nil) [.slice (some ad) n cap] -> AR P F R k ⟨(s, .sv (.one (.lit (.slice (some ad) n cap)))) :: t, m, u⟩) : AR P F R k ⟨t, m, u⟩ := by
 rintro a w ⟨ρ, hE, hA, hM, hU, hW⟩
 obtain ⟨x, hx, hr⟩ := hA.at_ s _ ht
 have hr' : RdO F.X.w0 F.X.F (.row T k' n c .nil) [x] := hr
 have hr2 := hr'
 obtain ⟨v, vs, e1, _, hh⟩ := hr2
 obtain ⟨rfl, _⟩ := List.cons.inj e1
 rcases hh with ⟨⟨a0, c0, rfl, hac⟩, hn, hc⟩ | ⟨g, o, cap, us, rfl, _⟩
 ·cases a0 with
  | none =>
   obtain rfl := hac rfl
   exact h1 hn hc a w ⟨ρ, hE, hA.tell hx ⟨rfl, rfl⟩, hM, hU, hW⟩
  | some ad => subst hn; exact h2 ad c0 hr' a w ⟨ρ, hE, hA.tell hx ⟨rfl, rfl⟩, hM, hU, hW⟩
 ·exact h2 _ cap hr' a w ⟨ρ, hE, hA.tell hx ⟨rfl, rfl⟩, hM, hU, hW⟩
theorem qmi {s T k' n : Nat} {c : D} {x : Value} {t : TL} {m : ML} {u : List Nat} (hr : RdO F.X.w0 F.X.F (.row T k' n c .nil) [x]) (ht : lk t s = some (.sv (.one (.lit x))))
  (h : AR P F R k ⟨(s, .sv (.one (.ro T k' n c))) :: t, m, u⟩) : AR P F R k ⟨t, m, u⟩ := by
 rintro a w ⟨ρ, hE, hA, hM, hU, hW⟩
 obtain ⟨y, hy, rfl, _⟩ := hA.at_ s _ ht
 exact h a w ⟨ρ, hE, hA.tell hy hr, hM, hU, hW⟩
theorem qry {X : Cx} {ρ : Env} {r : Nat} (hr : ρ r = some (.slice none 0 0)) : ∀ {j : Nat} {vs vs' : List CV} {xs : List Value}, nth vs j = some (.lit (.slice none 0 0)) -> putL j [.hd r] vs = some vs' -> qaj X ρ vs xs -> qaj X ρ vs' xs
 | 0, [], _, _, h, _, _ => by cases h
 | 0, v :: vs, vs', x :: xs, h, hp, hc => by
  obtain rfl := Option.some.inj (show some v = _ from h)
  have e : putL 0 [] vs = some vs := by cases vs <;> rfl
  unfold putL at hp
  rw [e] at hp
  obtain rfl := Option.some.inj hp
  obtain ⟨rfl, _⟩ : x = .slice none 0 0 /\ _ := hc.1
  exact ⟨⟨hr, rfl⟩, hc.2⟩
 | j + 1, [], _, _, h, _, _ => by cases h
 | j + 1, v :: vs, vs', x :: xs, h, hp, hc => by
  have h' : nth vs j = some (.lit (.slice none 0 0)) := h
  unfold putL at hp
  split at hp
  ·rename_i m hm
   obtain rfl := Option.some.inj hp
   exact ⟨hc.1, qry hr h' hm hc.2⟩
  ·cases hp
theorem qce {b j T q T' : Nat} {vs vs' : List CV} {t : TL} {m : ML} {u : List Nat} {r : Nat} (hm : lk m b = some (some (.box T' vs))) (hv : nth vs j = some (.lit (.slice none 0 0))) (hp : putL j [.hd r] vs = some vs') (hbr : Nat.beq b r = false) (hu : hasN u r = false)
  (h : AR P F R k ⟨t, (b, some (.box T' vs')) :: (r, some (.row T q [])) :: m, r :: u⟩) : AR P F R k ⟨t, m, u⟩ := by
 rintro a w ⟨ρ, hE, hA, ⟨B, hB⟩, hU, hW⟩
 have hn : ρ r = none := by
  cases e : ρ r with
  | none => rfl
  | some y => exact absurd (hU r y e) (qco hu)
 have hx := qfm (x := Value.slice none 0 0) hn
 have hbr' : b ≠ r := fun e => by subst e; simp at hbr
 have h1 := hB.upd (w' := w) (m' := (r, some (.row T q [])) :: m) hx r (.row T q []) [] [] (fun _ h => by cases h) ⟨_, qdk _ _ _, qvn, by simp, by simp⟩ (by simp) (fun x h => by cases h) hW.lt (fun _ _ _ => rfl) (by
  intro q' bq hq
  rw [jy] at hq
  by_cases e : r = q'
  ·rw [if_pos e] at hq; exact .inl ⟨e.symm, by simpa using hq.symm⟩
  ·rw [if_neg e] at hq; exact .inr ⟨fun e' => e e'.symm, by simp, hq⟩)
 have hm1 : lk ((r, some (Blk.row T q [])) :: m) b = some (some (.box T' vs)) := by rw [jy, if_neg (fun e => hbr' e.symm)]; exact hm
 have hb1 := h1.blk b _ hm1
 have hnd1 := h1.nd b _ hm1
 obtain ⟨g, cur, k1, k2, k3, k4⟩ := hb1
 have k5 : qaj F.X (putE ρ r (.slice none 0 0)) vs' cur.toList := qry (qdk _ _ _) hv hp k4
 refine h a w ⟨putE ρ r (.slice none 0 0), fun q y hq => hx q y (hE q y hq), hA.ext hx, ?_, ?_, hW⟩
 ·refine ⟨_, h1.upd (Ext.refl _) b (.box T' vs') [g] [b] (fun q hq => by rw [List.mem_singleton] at hq; exact ⟨_, hq ▸ hm1⟩) ⟨g, cur, k1, k2, rfl, k5⟩ (by simp) (fun x hx => .inl ⟨b, by simp, by rw [k3]; exact hx⟩) hW.lt (fun _ _ _ => rfl) ?_⟩
  intro q' bq hq
  rw [jy] at hq
  by_cases e : b = q'
  ·rw [if_pos e] at hq; exact .inl ⟨e.symm, by simpa using hq.symm⟩
  ·rw [if_neg e] at hq; exact .inr ⟨fun e' => e e'.symm, by simpa using fun e' => e e'.symm, hq⟩
 ·intro q' y hq
  rcases qee q' y hq with h | h
  ·exact List.mem_cons_of_mem _ (hU q' y h)
  ·rw [List.mem_singleton] at h; simp [h]
end
theorem qk4 {w : World} : ∀ {d : D} {us : List Value} {b : List Nat} {j T2 k2 n2 : Nat} {c2 : D}, Own w d us b -> qdr d j = some (.row T2 k2 n2 c2) →
  ∃ x b1 b2, Own w (dSet d j (.lit x)) us b1 /\ Own w (.row T2 k2 n2 c2 .nil) [x] b2 /\ (b1 ++ b2).Perm b /\ (dSet d j (.lit x)).len = d.len
 | .nil, _, _, j, _, _, _, _, _, h => by cases j <;> cases h
 | .lit v r, _, _, 0, _, _, _, _, _, h => by cases h
 | .lit v r, us, b, j + 1, T2, k2, n2, c2, ho, h => by
  obtain ⟨vs', rfl, ho⟩ := ho
  obtain ⟨x, b1, b2, h1, h2, h3, h4⟩ := qk4 (d := r) (j := j) ho h
  exact ⟨x, b1, b2, ⟨vs', rfl, h1⟩, h2, h3, by show (dSet r j (.lit x)).len + 1 = _; rw [h4]; rfl⟩
 | .row T k n c r, us, b, 0, T2, k2, n2, c2, ho, h => by
  obtain ⟨v, vs', p1, p2, rfl, rfl, ho, h2⟩ := ho
  have e : Cell.row T k n c = .row T2 k2 n2 c2 := Option.some.inj h
  rw [Cell.row.injEq] at e
  obtain ⟨rfl, rfl, rfl, rfl⟩ := e
  exact ⟨v, p2, p1, ⟨vs', rfl, ho⟩, ⟨v, [], p1, [], rfl, by simp, ⟨rfl, rfl⟩, h2⟩, List.perm_append_comm, rfl⟩
 | .row T k n c r, us, b, j + 1, T2, k2, n2, c2, ho, h => by
  obtain ⟨v, vs', p1, p2, rfl, rfl, ho, h2⟩ := ho
  obtain ⟨x, b1, b2, g1, g2, g3, g4⟩ := qk4 (d := r) (j := j) ho h
  exact ⟨x, p1 ++ b1, b2, ⟨v, vs', p1, b1, rfl, rfl, g1, h2⟩, g2, by rw [List.append_assoc]; exact g3.append_left p1, by show (dSet r j (.lit x)).len + 1 = _; rw [g4]; rfl⟩
theorem qjc {w : World} : ∀ {d : D} {us : List Value} {b b2 : List Nat} {j T2 k2 n2 : Nat} {c2 : D} {x : Value}, Own w d us b -> qdr d j = some (.lit x) -> Own w (.row T2 k2 n2 c2 .nil) [x] b2 →
  ∃ b', Own w (dSet d j (.row T2 k2 n2 c2)) us b' /\ b'.Perm (b ++ b2) /\ (dSet d j (.row T2 k2 n2 c2)).len = d.len
 | .nil, _, _, _, j, _, _, _, _, _, _, h, _ => by cases j <;> cases h
 | .lit v r, us, b, b2, 0, T2, k2, n2, c2, x, ho, h, h2 => by
  obtain rfl : v = x := by have := Option.some.inj h; rwa [Cell.lit.injEq] at this
  obtain ⟨vs', rfl, ho⟩ := ho
  obtain ⟨v', vs'', p1, p2, e1, rfl, ⟨rfl, rfl⟩, h3⟩ := h2
  obtain ⟨rfl, _⟩ := List.cons.inj e1
  exact ⟨p1 ++ b, ⟨v, vs', p1, b, rfl, rfl, ho, h3⟩, by rw [List.append_nil]; exact List.perm_append_comm, rfl⟩
 | .lit v r, us, b, b2, j + 1, T2, k2, n2, c2, x, ho, h, h2 => by
  obtain ⟨vs', rfl, ho⟩ := ho
  obtain ⟨b', h1, h3, h4⟩ := qjc (d := r) (j := j) ho h h2
  exact ⟨b', ⟨vs', rfl, h1⟩, h3, by show (dSet r j _).len + 1 = _; rw [h4]; rfl⟩
 | .row T k n c r, _, _, _, 0, _, _, _, _, _, _, h, _ => by cases h
 | .row T k n c r, us, b, b2, j + 1, T2, k2, n2, c2, x, ho, h, h2 => by
  obtain ⟨v, vs', p1, p2, rfl, rfl, ho, h5⟩ := ho
  obtain ⟨b', g1, g3, g4⟩ := qjc (d := r) (j := j) ho h h2
  exact ⟨p1 ++ b', ⟨v, vs', p1, b', rfl, rfl, g1, h5⟩, by rw [List.append_assoc]; exact g3.append_left p1, by show (dSet r j _).len + 1 = _; rw [g4]; rfl⟩
theorem qze {w : World} {T k : Nat} {l : List D} {y : Value} {bs : List Nat} {i j T2 k2 n2 : Nat} {d c2 : D} (h : Own w (rowC T k l) [y] bs) (hk : ∀ d ∈ l, d.len = k) (hd : l[i]? = some d) (hc : qdr d j = some (.row T2 k2 n2 c2)) :
  ∃ x b1 b2, Own w (rowC T k (l.set i (dSet d j (.lit x)))) [y] b1 /\ Own w (.row T2 k2 n2 c2 .nil) [x] b2 /\ (b1 ++ b2).Perm bs /\ (dSet d j (.lit x)).len = k := by
 obtain ⟨A, cap, rfl, _, _, hA⟩ := qjk h hk
 obtain ⟨hi, rfl⟩ := List.getElem?_eq_some_iff.1 hd
 obtain ⟨g, o, cur, us, pre, b, post, rfl, rfl, hg, hl, hus, hsz, ho, hset⟩ := hA i hi
 obtain ⟨x, b1, b2, h1, h2, h3, h4⟩ := qk4 ho hc
 have hlen := h4.trans (hk _ (List.getElem_mem hi))
 have e : cur.toList = cur.toList.take (o + i * k) ++ (us ++ cur.toList.drop (o + i * k + k)) := by
  have h9 := List.take_append_drop k (cur.toList.drop (o + i * k))
  rw [List.drop_drop] at h9
  rw [hus, h9, List.take_append_drop]
 refine ⟨x, _, b2, hset w _ us b1 cur (fun _ _ => rfl) hg rfl e hlen h1, h2, ?_, hlen⟩
 rw [List.cons_append]
 refine List.Perm.cons g ?_
 rw [List.append_assoc]
 refine List.Perm.append_left pre ?_
 rw [List.append_assoc]
 refine (List.Perm.append_left b1 List.perm_append_comm).trans ?_
 rw [← List.append_assoc]
 exact h3.append_right post
theorem qxb {w : World} {T k : Nat} {l : List D} {y x : Value} {bs b2 : List Nat} {i j T2 k2 n2 : Nat} {d c2 : D} (h : Own w (rowC T k l) [y] bs) (hk : ∀ d ∈ l, d.len = k) (hd : l[i]? = some d) (hc : qdr d j = some (.lit x)) (h2 : Own w (.row T2 k2 n2 c2 .nil) [x] b2) :
  ∃ bs', Own w (rowC T k (l.set i (dSet d j (.row T2 k2 n2 c2)))) [y] bs' /\ bs'.Perm (bs ++ b2) /\ (dSet d j (.row T2 k2 n2 c2)).len = k := by
 obtain ⟨A, cap, rfl, _, _, hA⟩ := qjk h hk
 obtain ⟨hi, rfl⟩ := List.getElem?_eq_some_iff.1 hd
 obtain ⟨g, o, cur, us, pre, b, post, rfl, rfl, hg, hl, hus, hsz, ho, hset⟩ := hA i hi
 obtain ⟨b', h1, h3, h4⟩ := qjc ho hc h2
 have hlen := h4.trans (hk _ (List.getElem_mem hi))
 have e : cur.toList = cur.toList.take (o + i * k) ++ (us ++ cur.toList.drop (o + i * k + k)) := by
  have h9 := List.take_append_drop k (cur.toList.drop (o + i * k))
  rw [List.drop_drop] at h9
  rw [hus, h9, List.take_append_drop]
 refine ⟨_, hset w _ us b' cur (fun _ _ => rfl) hg rfl e hlen h1, ?_, hlen⟩
 rw [List.cons_append]
 refine List.Perm.cons g ?_
 rw [List.append_assoc]
 refine List.Perm.append_left pre ?_
 rw [List.append_assoc]
 refine (h3.append_right post).trans ?_
 rw [List.append_assoc]
 exact List.Perm.append_left b List.perm_append_comm
theorem qd4 : ∀ {a b : D}, ones (a.app b) -> ones a /\ ones b
 | .nil, _, h => ⟨trivial, h⟩
 | .lit v r, b, h => ⟨⟨h.1, (qd4 h.2).1⟩, (qd4 h.2).2⟩
 | .row _ _ _ c r, b, h => ⟨⟨h.1, (qd4 h.2).1⟩, (qd4 h.2).2⟩
theorem qj2 : ∀ {l : List D}, ones (D.cat l) -> ∀ d ∈ l, ones d
 | [], _, _, h => by cases h
 | x :: l, h, d, hd => by
  obtain ⟨h1, h2⟩ := qd4 (a := x) h
  rw [List.mem_cons] at hd
  rcases hd with rfl | hd
  ·exact h1
  ·exact qj2 h2 d hd
theorem qk5 : ∀ {d : D} {j T k n : Nat} {c : D}, ones d -> qdr d j = some (.row T k n c) -> ones c
 | .nil, j, _, _, _, _, _, h => by cases j <;> cases h
 | .lit v r, 0, _, _, _, _, _, h => by cases h
 | .lit v r, j + 1, T, k, n, c, ho, h => qk5 (d := r) (j := j) ho.2 h
 | .row T' k' n' c' r, 0, T, k, n, c, ho, h => by
  have e : Cell.row T' k' n' c' = .row T k n c := Option.some.inj h
  rw [Cell.row.injEq] at e
  obtain ⟨_, _, _, rfl⟩ := e
  exact ho.1
 | .row T' k' n' c' r, j + 1, T, k, n, c, ho, h => qk5 (d := r) (j := j) ho.2 h
theorem qxc {w : World} {T k n : Nat} {c : D} {x : Value} {b : List Nat} (h : Own w (.row T k n c .nil) [x] b) : x.oneCell' = true := by
 obtain ⟨v, vs', _, _, e1, _, _, h2⟩ := h
 obtain ⟨rfl, _⟩ := List.cons.inj e1
 rcases h2 with ⟨⟨a, rfl⟩, _⟩ | ⟨_, _, _, _, _, rfl, _⟩ <;> rfl
section
variable {P : Program} {F : Fr} {R : St -> Prop} {kk : List It}
theorem qrz {w : World} {T k : Nat} {l : List D} {x : Value} {bs : List Nat} (h : Own w (rowC T k l) [x] bs) : ∃ A n cap, x = .slice A n cap /\ n = l.length /\ n <= cap := by
 obtain ⟨v, vs', b1, b2, e1, e2, _, h⟩ := h
 obtain ⟨rfl, rfl⟩ := List.cons.inj e1
 rcases h with ⟨⟨a, rfl⟩, hl, _⟩ | ⟨g, o, cap, cur, b, rfl, rfl, h1, h2, _⟩
 ·exact ⟨a, 0, 0, rfl, hl.symm, Nat.le_refl _⟩
 ·exact ⟨_, _, _, rfl, rfl, h2⟩
theorem qzf (r i j q p : Nat) {T k T2 k2 n2 : Nat} {l : List D} {d c2 : D} (es : List D) {t : TL} {m : ML} {u : List Nat} (hm : lk m r = some (some (.row T k l))) (hd : l[i]? = some d) (hc : qdr d j = some (.row T2 k2 n2 c2)) (hes : c2 = D.cat es /\ n2 = es.length /\ ∀ e ∈ es, e.len = k2)
  (hu : hasN u q = false) (hv : hasN u p = false) (hqp : Nat.beq q p = false)
  (h : ∀ A n cap, n = es.length -> n <= cap -> AR P F R kk ⟨t, (r, some (.row T k (l.set i (dSet d j (.lit (.slice A n cap)))))) :: (q, some (.row T2 k2 es)) :: (p, some (.pin q (.slice A n cap))) :: m, p :: q :: u⟩) : AR P F R kk ⟨t, m, u⟩ := by
 rintro a w ⟨ρ, hE, hA, ⟨B, hB⟩, hU, hW⟩
 obtain ⟨rfl, rfl, hes⟩ := hes
 obtain ⟨y, hy, hown, hlen, hon⟩ := hB.blk r _ hm
 obtain ⟨x, b1, b2, ho1, ho2, hperm, hl2⟩ := qze hown hlen hd hc
 obtain ⟨A, n, cap, hxs, hn1, hn2⟩ := qrz ho2
 have hnq : ρ q = none := by
  cases e : ρ q with
  | none => rfl
  | some z => exact absurd (hU q z e) (qco hu)
 have hnp : ρ p = none := by
  cases e : ρ p with
  | none => rfl
  | some z => exact absurd (hU p z e) (qco hv)
 have nqp : q ≠ p := fun e => by subst e; simp at hqp
 have nrq : r ≠ q := fun e => by subst e; rw [hnq] at hy; cases hy
 have nrp : r ≠ p := fun e => by subst e; rw [hnp] at hy; cases hy
 have x1 := qfm (x := x) hnq
 have hnp' : putE ρ q x p = none := by unfold putE; rw [if_neg (fun e => nqp e.symm)]; exact hnp
 have x2 := qfm (x := x) hnp'
 have hx : Ext ρ (putE (putE ρ q x) p x) := fun z v hz => x2 z v (x1 z v hz)
 have hq : putE (putE ρ q x) p x q = some x := x2 q x (qdk _ _ _)
 have hp : putE (putE ρ q x) p x p = some x := qdk _ _ _
 have hnd := hB.nd r _ hm
 rw [← hperm.nodup_iff, List.nodup_append] at hnd
 obtain ⟨nd1, nd2, nd3⟩ := hnd
 have s1 : ∀ z ∈ b1, z ∈ B r := fun z hz => hperm.subset (by simp [hz])
 have s2 : ∀ z ∈ b2, z ∈ B r := fun z hz => hperm.subset (by simp [hz])
 have hlk : ∀ z b, lk ((r, some (Blk.row T k (l.set i (dSet d j (.lit x))))) :: (q, some (.row T2 k2 es)) :: (p, some (.pin q x)) :: m) z = some (some b) →
   (z = r /\ b = .row T k (l.set i (dSet d j (.lit x)))) ∨ (z = q /\ b = .row T2 k2 es) ∨ (z = p /\ b = .pin q x) ∨ (z ≠ r /\ z ≠ q /\ z ≠ p /\ lk m z = some (some b)) := by
  intro z b hz
  rw [jy] at hz
  by_cases e1 : r = z
  ·rw [if_pos e1] at hz; exact .inl ⟨e1.symm, by simpa using hz.symm⟩
  ·rw [if_neg e1, jy] at hz
   by_cases e2 : q = z
   ·rw [if_pos e2] at hz; exact .inr (.inl ⟨e2.symm, by simpa using hz.symm⟩)
   ·rw [if_neg e2, jy] at hz
    by_cases e3 : p = z
    ·rw [if_pos e3] at hz; exact .inr (.inr (.inl ⟨e3.symm, by simpa using hz.symm⟩))
    ·rw [if_neg e3] at hz; exact .inr (.inr (.inr ⟨fun e => e1 e.symm, fun e => e2 e.symm, fun e => e3 e.symm, hz⟩))
 have h' := h A n cap hn1 hn2
 rw [← hxs] at h'
 refine h' a w ⟨_, fun z v hz => hx z v (hE z v hz), hA.ext hx, ⟨fun z => if z = r then b1 else if z = q then b2 else if z = p then [] else B z, ?_, ?_, ?_, ?_⟩, ?_, hW⟩
 ·intro z b hz
  rcases hlk z b hz with ⟨rfl, rfl⟩ | ⟨rfl, rfl⟩ | ⟨rfl, rfl⟩ | ⟨g1, g2, g3, g4⟩
  ·simp only [if_pos rfl]
   refine ⟨y, hx _ _ hy, ho1, fun e he => ?_, fun e he => ?_⟩
   ·rcases List.mem_or_eq_of_mem_set he with he | rfl
    ·exact hlen e he
    ·exact hl2
   ·rcases List.mem_or_eq_of_mem_set he with he | rfl
    ·exact hon e he
    ·exact qgf (hon d (List.mem_of_getElem? hd)) (fun v hv => by rw [Cell.lit.injEq] at hv; subst hv; exact qxc ho2) (fun _ _ _ _ e => by cases e)
  ·simp only [if_neg (Ne.symm nrq), if_pos rfl]
   exact ⟨x, hq, ho2, hes, qj2 (qk5 (hon d (List.mem_of_getElem? hd)) hc)⟩
  ·simp only [if_neg (Ne.symm nrp), if_neg (Ne.symm nqp), if_pos rfl]
   exact ⟨hp, hq, rfl⟩
  ·simp only [if_neg g1, if_neg g2, if_neg g3]
   exact (hB.blk z b g4).same hx (fun _ _ => rfl)
 ·intro z b hz
  rcases hlk z b hz with ⟨rfl, rfl⟩ | ⟨rfl, rfl⟩ | ⟨rfl, rfl⟩ | ⟨g1, g2, g3, g4⟩
  ·simp only [if_pos rfl]; exact nd1
  ·simp only [if_neg (Ne.symm nrq), if_pos rfl]; exact nd2
  ·simp only [if_neg (Ne.symm nrp), if_neg (Ne.symm nqp), if_pos rfl]; simp
  ·simp only [if_neg g1, if_neg g2, if_neg g3]; exact hB.nd z b g4
 ·intro z b hz
  rcases hlk z b hz with ⟨rfl, rfl⟩ | ⟨rfl, rfl⟩ | ⟨rfl, rfl⟩ | ⟨g1, g2, g3, g4⟩
  ·simp only [if_pos rfl]; exact fun v hv => hB.nf _ _ hm v (s1 v hv)
  ·simp only [if_neg (Ne.symm nrq), if_pos rfl]; exact fun v hv => hB.nf _ _ hm v (s2 v hv)
  ·simp only [if_neg (Ne.symm nrp), if_neg (Ne.symm nqp), if_pos rfl]; simp
  ·simp only [if_neg g1, if_neg g2, if_neg g3]; exact hB.nf z b g4
 ·intro z z' b b' hne hz hz'
  have hsub : ∀ v b, lk ((r, some (Blk.row T k (l.set i (dSet d j (.lit x))))) :: (q, some (.row T2 k2 es)) :: (p, some (.pin q x)) :: m) v = some (some b) -> v ≠ r -> v ≠ q →
    (∀ c ∈ (if v = r then b1 else if v = q then b2 else if v = p then [] else B v), c ∉ B r) /\ (v = p ∨ lk m v = some (some b)) := by
   intro v b hv n1 n2
   rcases hlk v b hv with ⟨e, _⟩ | ⟨e, _⟩ | ⟨rfl, rfl⟩ | ⟨g1, g2, g3, g4⟩
   ·exact absurd e n1
   ·exact absurd e n2
   ·simp only [if_neg n1, if_neg n2, if_pos rfl]; simp
   ·simp only [if_neg g1, if_neg g2, if_neg g3]; exact ⟨hB.dj v r b _ g1 g4 hm, .inr g4⟩
  show ∀ c ∈ (if z = r then b1 else if z = q then b2 else if z = p then [] else B z), c ∉ (if z' = r then b1 else if z' = q then b2 else if z' = p then [] else B z')
  by_cases a1 : z = r
  ·subst a1
   rw [if_pos rfl]
   by_cases a2 : z' = q
   ·subst a2
    rw [if_neg (fun e => hne e.symm), if_pos rfl]
    exact fun c hc hc' => nd3 c hc c hc' rfl
   ·exact fun c hc hc' => (hsub z' b' hz' (fun e => hne e.symm) a2).1 c hc' (s1 c hc)
  ·by_cases a2 : z = q
   ·subst a2
    rw [if_neg a1, if_pos rfl]
    by_cases a3 : z' = r
    ·subst a3
     rw [if_pos rfl]
     exact fun c hc hc' => nd3 c hc' c hc rfl
    ·exact fun c hc hc' => (hsub z' b' hz' a3 (fun e => hne e.symm)).1 c hc' (s2 c hc)
   ·have hz1 := hsub z b hz a1 a2
    by_cases a3 : z' = r
    ·subst a3
     rw [if_pos (show z' = z' from rfl)]
     exact fun c hc hc' => hz1.1 c hc (s1 c hc')
    ·by_cases a4 : z' = q
     ·subst a4
      rw [if_neg a3, if_pos (show z' = z' from rfl)]
      exact fun c hc hc' => hz1.1 c hc (s2 c hc')
     ·have hz2 := hsub z' b' hz' a3 a4
      rw [if_neg a1, if_neg a2, if_neg a3, if_neg a4]
      by_cases a5 : z = p
      ·rw [if_pos a5]; simp
      ·by_cases a6 : z' = p
       ·rw [if_pos a6]; simp
       ·rw [if_neg a5, if_neg a6]
        exact hB.dj z z' b b' hne (hz1.2.resolve_left a5) (hz2.2.resolve_left a6)
 ·intro z v hz
  rcases qee z v hz with hz | hz
  ·rcases qee z v hz with hz | hz
   ·exact List.mem_cons_of_mem _ (List.mem_cons_of_mem _ (hU z v hz))
   ·rw [List.mem_singleton] at hz; simp [hz]
  ·rw [List.mem_singleton] at hz; simp [hz]
theorem qj3 (r i j q p : Nat) {T k T2 k2 n2 : Nat} {l : List D} {d c2 : D} (es : List D) {t : TL} {m : ML} {u : List Nat} (hm : lk m r = some (some (.row T k l))) (hd : l[i]? = some d) (hc : qdr d j = some (.row T2 k2 n2 c2)) (hes : c2 = D.cat es /\ n2 = es.length /\ ∀ e ∈ es, e.len = k2)
  (hu : hasN u q = false) (hv : hasN u p = false) (hqp : Nat.beq q p = false)
  (h : ∀ A n cap, AR P F R kk ⟨t, (r, some (.row T k (l.set i (dSet d j (.lit (.slice A n cap)))))) :: (q, some (.row T2 k2 es)) :: (p, some (.pin q (.slice A n cap))) :: m, p :: q :: u⟩) : AR P F R kk ⟨t, m, u⟩ :=
 qzf r i j q p es hm hd hc hes hu hv hqp fun A n cap _ _ => h A n cap
theorem qh0 (r i j q p : Nat) {T k T2 k2 : Nat} {l es : List D} {d : D} {x x' : Value} {t : TL} {m : ML} {u : List Nat} (hm : lk m r = some (some (.row T k l))) (hq : lk m q = some (some (.row T2 k2 es))) (hp : lk m p = some (some (.pin q x)))
  (hd : l[i]? = some d) (hc : qdr d j = some (.lit x')) (hxx : x' = x) (hqr : Nat.beq q r = false)
  (h : AR P F R kk ⟨t, (r, some (.row T k (l.set i (dSet d j (.row T2 k2 es.length (D.cat es)))))) :: (q, none) :: (p, none) :: m, u⟩) : AR P F R kk ⟨t, m, u⟩ := by
 rintro a w ⟨ρ, hE, hA, ⟨B, hB⟩, hU, hW⟩
 subst hxx
 have nqr : q ≠ r := fun e => by subst e; simp at hqr
 obtain ⟨y, hy, hown, hlen, hon⟩ := hB.blk r _ hm
 obtain ⟨z, hz, hown2, hlen2, hon2⟩ := hB.blk q _ hq
 have hpin := (hB.blk p _ hp).2.1
 rw [hz] at hpin
 obtain rfl := Option.some.inj hpin
 obtain ⟨bs, h1, h2, h3⟩ := qxb hown hlen hd hc hown2
 have hnd : (B r ++ B q).Nodup := by
  rw [List.nodup_append]
  exact ⟨hB.nd r _ hm, hB.nd q _ hq, fun a ha b hb e => hB.dj r q _ _ (fun e => nqr e.symm) hm hq a ha (e ▸ hb)⟩
 refine h a w ⟨ρ, hE, hA, ⟨_, hB.upd (Ext.refl ρ) r (.row T k (l.set i (dSet d j (.row T2 k2 es.length (D.cat es))))) bs [r, q] ?_ ⟨y, hy, h1, fun e he => ?_, fun e he => ?_⟩ (h2.nodup_iff.2 hnd) (fun v hv => .inl ?_) hW.lt (fun _ _ _ => rfl) ?_⟩, hU, hW⟩
 ·intro v hv
  simp only [List.mem_cons, List.not_mem_nil, or_false] at hv
  rcases hv with rfl | rfl
  ·exact ⟨_, hm⟩
  ·exact ⟨_, hq⟩
 ·rcases List.mem_or_eq_of_mem_set he with he | rfl
  ·exact hlen e he
  ·exact h3
 ·rcases List.mem_or_eq_of_mem_set he with he | rfl
  ·exact hon e he
  ·exact qgf (hon d (List.mem_of_getElem? hd)) (fun v hv => by cases hv) (fun T k n c e => by rw [Cell.row.injEq] at e; obtain ⟨_, _, _, rfl⟩ := e; exact qjt hon2)
 ·have := h2.subset hv
  rw [List.mem_append] at this
  rcases this with hv | hv
  ·exact ⟨r, by simp, hv⟩
  ·exact ⟨q, by simp, hv⟩
 ·intro v b hv
  rw [jy] at hv
  by_cases e1 : r = v
  ·rw [if_pos e1] at hv; exact .inl ⟨e1.symm, by simpa using hv.symm⟩
  ·rw [if_neg e1, jy] at hv
   by_cases e2 : q = v
   ·rw [if_pos e2] at hv; simp at hv
   ·rw [if_neg e2, jy] at hv
    by_cases e3 : p = v
    ·rw [if_pos e3] at hv; simp at hv
    ·rw [if_neg e3] at hv
     exact .inr ⟨fun e => e1 e.symm, by simp only [List.mem_cons, List.not_mem_nil, or_false, not_or]; exact ⟨fun e => e1 e.symm, fun e => e2 e.symm⟩, hv⟩
end
theorem nrm {a b : Prop} (K : b) (h : a = b := by dsimp only [zx, yx, Int.toNat_natCast, ro, Nat.reduceAdd, Nat.reduceMul, Nat.zero_add, List.map, putT, app, zn, gOb, argT, keys, yg, dropped, gAnd, wB, rnT, rnS, rnC, rnCs, rnSs, rnM, rnB, rnN, rn, lk, St.over, ded, delL, jo, menT, jw, menS, jv, menC, hasN, resT, SV.cells, mpM, mpTL, mpO, mpB, lkO, mpT, mpSs, mpS, mpCs, mpC, mpN, endT, endM, endU, insN, addN] <;> exact rfl) : a := h.mpr K
theorem nrmE {a b : Prop} (K : b) (h : a = b := by dsimp only [zx, yx, Int.toNat_natCast, ro, Nat.reduceAdd, Nat.reduceMul, Nat.zero_add, List.map, putT, app, zn, gOb, argT, keys, yg, dropped, gAnd, wB, rnT, rnS, rnC, rnCs, rnSs, rnM, rnB, rnN, rn, lk, St.over, ded, delL, jo, menT, jw, menS, jv, menC, hasN, resT, SV.cells, mpM, mpTL, mpO, mpB, lkO, mpT, mpSs, mpS, mpCs, mpC, mpN, selT, selM, hasN, app, slotsOf, qcd, nth, opS, opsS, qeg] <;> exact rfl) : a := h.mpr K
theorem nrmO {a b : Prop} (K : b) (h : a = b := by dsimp only [okX, qc8, app, gOb, All, gAnd, wB, rnT, rnS, rnC, rnCs, rnSs, rnB, rn, lk, obD] <;> exact rfl) : a := h.mpr K
theorem ob1 {a : Prop} (h : a := by first | with_reducible rfl | omega | exact Nat.le_refl _ | exact congrArg (Value.int .i64) (by omega) | (simp only [List.length_map]; first | done | omega) | (simp only [lns]; omega) | exact qg4 (by omega) (by omega) | exact qnq (fun _ => rfl) (by assumption) | exact qnq (fun _ => rfl) (getD_at (by omega)) | exact qxd (fun _ => rfl) (by omega) | exact qdo (by omega) | exact qe6 (by simp only [lns]; omega) | (rw [List.length_replicate, Int.toNat_natCast] at *; omega) | assumption | decide) : a := h
theorem wk3 {F : Fr} {σ0 σ : St} {π : List (Nat × Nat)} {o : List Prop} (ho : All o) (hπ : mpM σ0.m σ.m (mpTL σ0.t σ.t []) = π := by dsimp only [qfj, Nat.reduceAdd, Nat.reduceMul, Nat.zero_add, List.map, mpM, mpTL, mpO, mpB, lkO, mpT, mpSs, mpS, mpCs, mpC, mpN, lk, idN, keys, resT, ro] <;> exact rfl) (h : wkOb F.base σ0 σ π = some o := by dsimp only [xCap, qlo, zx, Nat.reduceAdd, Nat.reduceMul, Nat.zero_add, List.map, wkOb, qlq, xTL, xM, xT, xSs, xS, xCs, xC, xB, okTL, okML, okT, okSs, okS, okCs, okC, okB, qd3, rnN, allIn, fixed, rn, lk, hasN, app, SV.cells, ro, keys, resT] <;> exact rfl) : ∃ f, Wk F σ0 σ f := qzd hπ h ho
section
variable {P : Program} {F : Fr} {tt : TT} {rs : List ResultVar} {c : CFD} {k : List It} {σ : St} {vs : List SV} {π : List (Nat × Nat)} {ob o : List Prop}
theorem ret3 (ho : All (app ob o)) (h1 : qiy tt σ.t σ.m rs = some (vs, ob) := by exact rfl) (hπ : mpM c.post σ.m (mpT c.res (resT vs) (idN (keys c.pre))) = π := by dsimp only [qfj, Nat.reduceAdd, Nat.reduceMul, Nat.zero_add, List.map, mpM, mpTL, mpO, mpB, lkO, mpT, mpSs, mpS, mpCs, mpC, mpN, lk, idN, keys, resT, ro] <;> exact rfl) (h2 : qlq c σ vs π = some o := by dsimp only [xCap, qlo, zx, Nat.reduceAdd, Nat.reduceMul, Nat.zero_add, List.map, wkOb, qlq, xTL, xM, xT, xSs, xS, xCs, xC, xB, okTL, okML, okT, okSs, okS, okCs, okC, okB, qd3, rnN, allIn, fixed, rn, lk, hasN, app, SV.cells, ro, keys, resT] <;> exact rfl) : AR P F (Fin tt rs c) (.code .ret :: k) σ := q7v (qo0 h1 hπ h2 ho)
theorem end3 (ho : All (app ob o)) (h1 : qiy tt σ.t σ.m rs = some (vs, ob) := by exact rfl) (hπ : mpM c.post σ.m (mpT c.res (resT vs) (idN (keys c.pre))) = π := by dsimp only [qfj, Nat.reduceAdd, Nat.reduceMul, Nat.zero_add, List.map, mpM, mpTL, mpO, mpB, lkO, mpT, mpSs, mpS, mpCs, mpC, mpN, lk, idN, keys, resT, ro] <;> exact rfl) (h2 : qlq c σ vs π = some o := by dsimp only [xCap, qlo, zx, Nat.reduceAdd, Nat.reduceMul, Nat.zero_add, List.map, wkOb, qlq, xTL, xM, xT, xSs, xS, xCs, xC, xB, okTL, okML, okT, okSs, okS, okCs, okC, okB, qd3, rnN, allIn, fixed, rn, lk, hasN, app, SV.cells, ro, keys, resT] <;> exact rfl) : AR P F (Fin tt rs c) [] σ := q7w (qo0 h1 hπ h2 ho)
end
theorem st1 {a b : Prop} (K : b) (h : b -> a := by first | exact q7s | exact qy5 | exact q7t | exact q2w | exact qy7 | exact q2x rfl | exact qy6 | exact q7u) : a := h K
def ti2 : TI := ⟨Go.TypeDesc.int Go.IntKind.i64, 1, 8, Go.Value.int Go.IntKind.i64 0, [], none⟩
theorem q7y : TIok Tryz.prog 2 ti2 := ⟨Tryz.underlying2, by kernel_rfl, rfl, rfl, (fun _ h => nomatch h), (fun _ h => nomatch h)⟩
def ti3 : TI := ⟨Go.TypeDesc.int Go.IntKind.i64, 1, 8, Go.Value.int Go.IntKind.i64 0, [], none⟩
theorem q7z : TIok Tryz.prog 3 ti3 := ⟨Tryz.underlying3, by kernel_rfl, rfl, rfl, (fun _ h => nomatch h), (fun _ h => nomatch h)⟩
def ti4 : TI := ⟨Go.TypeDesc.bool, 1, 1, Go.Value.bool false, [], none⟩
theorem q70 : TIok Tryz.prog 4 ti4 := ⟨Tryz.underlying4, by kernel_rfl, rfl, rfl, (fun _ h => nomatch h), (fun _ h => nomatch h)⟩
def ti5 : TI := ⟨Go.TypeDesc.int Go.IntKind.u8, 1, 1, Go.Value.int Go.IntKind.u8 0, [], none⟩
theorem q71 : TIok Tryz.prog 5 ti5 := ⟨Tryz.underlying5, by kernel_rfl, rfl, rfl, (fun _ h => nomatch h), (fun _ h => nomatch h)⟩
def ti6 : TI := ⟨Go.TypeDesc.int Go.IntKind.u8, 1, 1, Go.Value.int Go.IntKind.u8 0, [], none⟩
theorem q72 : TIok Tryz.prog 6 ti6 := ⟨Tryz.underlying6, by kernel_rfl, rfl, rfl, (fun _ h => nomatch h), (fun _ h => nomatch h)⟩
def ti7 : TI := ⟨Go.TypeDesc.struct #[{ name := "x", type := 2, offset := 0, embedded := false, tag := "", pkgPath := "runtime", byteOffset := 0 }, { name := "y", type := 3, offset := 1, embedded := false, tag := "", pkgPath := "runtime", byteOffset := 8 }, { name := "signed", type := 4, offset := 2, embedded := false, tag := "", pkgPath := "runtime", byteOffset := 16 }, { name := "code", type := 6, offset := 3, embedded := false, tag := "", pkgPath := "runtime", byteOffset := 17 }], 4, 24, Go.Value.agg #[Go.Value.int Go.IntKind.i64 0, Go.Value.int Go.IntKind.i64 0, Go.Value.bool false, Go.Value.int Go.IntKind.u8 0], [(0, 1, false), (1, 1, false), (2, 1, false), (3, 1, false)], none⟩
theorem q73 : TIok Tryz.prog 7 ti7 := ⟨Tryz.underlying7, by kernel_rfl, rfl, rfl, by rintro fields ⟨⟩; kernel_rfl, (fun _ h => nomatch h)⟩
def ti8 : TI := ⟨Go.TypeDesc.struct #[{ name := "x", type := 2, offset := 0, embedded := false, tag := "", pkgPath := "runtime", byteOffset := 0 }, { name := "y", type := 3, offset := 1, embedded := false, tag := "", pkgPath := "runtime", byteOffset := 8 }, { name := "signed", type := 4, offset := 2, embedded := false, tag := "", pkgPath := "runtime", byteOffset := 16 }, { name := "code", type := 6, offset := 3, embedded := false, tag := "", pkgPath := "runtime", byteOffset := 17 }], 4, 24, Go.Value.agg #[Go.Value.int Go.IntKind.i64 0, Go.Value.int Go.IntKind.i64 0, Go.Value.bool false, Go.Value.int Go.IntKind.u8 0], [(0, 1, false), (1, 1, false), (2, 1, false), (3, 1, false)], none⟩
theorem q74 : TIok Tryz.prog 8 ti8 := ⟨Tryz.underlying8, by kernel_rfl, rfl, rfl, by rintro fields ⟨⟩; kernel_rfl, (fun _ h => nomatch h)⟩
def ti9 : TI := ⟨Go.TypeDesc.string, 1, 16, Go.Value.string { data := #[] }, [], none⟩
theorem q75 : TIok Tryz.prog 9 ti9 := ⟨Tryz.underlying9, by kernel_rfl, rfl, rfl, (fun _ h => nomatch h), (fun _ h => nomatch h)⟩
def ti10 : TI := ⟨Go.TypeDesc.string, 1, 16, Go.Value.string { data := #[] }, [], none⟩
theorem q25 : TIok Tryz.prog 10 ti10 := ⟨Tryz.underlying10, by kernel_rfl, rfl, rfl, (fun _ h => nomatch h), (fun _ h => nomatch h)⟩
def ti11 : TI := ⟨Go.TypeDesc.string, 1, 16, Go.Value.string { data := #[] }, [], none⟩
theorem q26 : TIok Tryz.prog 11 ti11 := ⟨Tryz.underlying11, by kernel_rfl, rfl, rfl, (fun _ h => nomatch h), (fun _ h => nomatch h)⟩
def ti12 : TI := ⟨Go.TypeDesc.int Go.IntKind.u64, 1, 8, Go.Value.int Go.IntKind.u64 0, [], none⟩
theorem q27 : TIok Tryz.prog 12 ti12 := ⟨Tryz.underlying12, by kernel_rfl, rfl, rfl, (fun _ h => nomatch h), (fun _ h => nomatch h)⟩
def ti13 : TI := ⟨Go.TypeDesc.struct #[{ name := "msg", type := 9, offset := 0, embedded := false, tag := "", pkgPath := "runtime", byteOffset := 0 }, { name := "addr", type := 12, offset := 1, embedded := false, tag := "", pkgPath := "runtime", byteOffset := 16 }], 2, 24, Go.Value.agg #[Go.Value.string { data := #[] }, Go.Value.int Go.IntKind.u64 0], [(0, 1, false), (1, 1, false)], none⟩
theorem q28 : TIok Tryz.prog 13 ti13 := ⟨Tryz.underlying13, by kernel_rfl, rfl, rfl, by rintro fields ⟨⟩; kernel_rfl, (fun _ h => nomatch h)⟩
def ti14 : TI := ⟨Go.TypeDesc.struct #[{ name := "msg", type := 9, offset := 0, embedded := false, tag := "", pkgPath := "runtime", byteOffset := 0 }, { name := "addr", type := 12, offset := 1, embedded := false, tag := "", pkgPath := "runtime", byteOffset := 16 }], 2, 24, Go.Value.agg #[Go.Value.string { data := #[] }, Go.Value.int Go.IntKind.u64 0], [(0, 1, false), (1, 1, false)], none⟩
theorem q29 : TIok Tryz.prog 14 ti14 := ⟨Tryz.underlying14, by kernel_rfl, rfl, rfl, by rintro fields ⟨⟩; kernel_rfl, (fun _ h => nomatch h)⟩
def ti15 : TI := ⟨Go.TypeDesc.pointer 228, 1, 8, Go.Value.pointer none, [], none⟩
theorem q3a : TIok Tryz.prog 15 ti15 := ⟨Tryz.underlying15, by kernel_rfl, rfl, rfl, (fun _ h => nomatch h), (fun _ h => nomatch h)⟩
def ti16 : TI := ⟨Go.TypeDesc.pointer 231, 1, 8, Go.Value.pointer none, [], none⟩
theorem q3b : TIok Tryz.prog 16 ti16 := ⟨Tryz.underlying16, by kernel_rfl, rfl, rfl, (fun _ h => nomatch h), (fun _ h => nomatch h)⟩
def ti17 : TI := ⟨Go.TypeDesc.pointer 241, 1, 8, Go.Value.pointer none, [], none⟩
theorem q3c : TIok Tryz.prog 17 ti17 := ⟨Tryz.underlying17, by kernel_rfl, rfl, rfl, (fun _ h => nomatch h), (fun _ h => nomatch h)⟩
def ti18 : TI := ⟨Go.TypeDesc.struct #[{ name := "typ", type := 17, offset := 0, embedded := false, tag := "", pkgPath := "internal/runtime/maps", byteOffset := 0 }], 1, 8, Go.Value.agg #[Go.Value.pointer none], [(0, 1, false)], none⟩
theorem q3d : TIok Tryz.prog 18 ti18 := ⟨Tryz.underlying18, by kernel_rfl, rfl, rfl, by rintro fields ⟨⟩; kernel_rfl, (fun _ h => nomatch h)⟩
def ti19 : TI := ⟨Go.TypeDesc.struct #[{ name := "typ", type := 17, offset := 0, embedded := false, tag := "", pkgPath := "internal/runtime/maps", byteOffset := 0 }], 1, 8, Go.Value.agg #[Go.Value.pointer none], [(0, 1, false)], none⟩
theorem q3e : TIok Tryz.prog 19 ti19 := ⟨Tryz.underlying19, by kernel_rfl, rfl, rfl, by rintro fields ⟨⟩; kernel_rfl, (fun _ h => nomatch h)⟩
def ti21 : TI := ⟨Go.TypeDesc.int Go.IntKind.i32, 1, 4, Go.Value.int Go.IntKind.i32 0, [], none⟩
theorem q3f : TIok Tryz.prog 21 ti21 := ⟨Tryz.underlying21, by kernel_rfl, rfl, rfl, (fun _ h => nomatch h), (fun _ h => nomatch h)⟩
def ti22 : TI := ⟨Go.TypeDesc.slice 5, 1, 24, Go.Value.slice none 0 0, [], none⟩
theorem q3g : TIok Tryz.prog 22 ti22 := ⟨Tryz.underlying22, by kernel_rfl, rfl, rfl, (fun _ h => nomatch h), (fun _ h => nomatch h)⟩
def ti24 : TI := ⟨Go.TypeDesc.slice 33, 1, 24, Go.Value.slice none 0 0, [], none⟩
theorem q3h : TIok Tryz.prog 24 ti24 := ⟨Tryz.underlying24, by kernel_rfl, rfl, rfl, (fun _ h => nomatch h), (fun _ h => nomatch h)⟩
def ti25 : TI := ⟨Go.TypeDesc.slice 4, 1, 24, Go.Value.slice none 0 0, [], none⟩
theorem q3i : TIok Tryz.prog 25 ti25 := ⟨Tryz.underlying25, by kernel_rfl, rfl, rfl, (fun _ h => nomatch h), (fun _ h => nomatch h)⟩
def ti26 : TI := ⟨Go.TypeDesc.struct #[{ name := "Cells", type := 24, offset := 0, embedded := false, tag := "", pkgPath := "", byteOffset := 0 }, { name := "Used", type := 25, offset := 1, embedded := false, tag := "", pkgPath := "", byteOffset := 24 }], 2, 48, Go.Value.agg #[Go.Value.slice none 0 0, Go.Value.slice none 0 0], [(0, 1, false), (1, 1, false)], none⟩
theorem q3j : TIok Tryz.prog 26 ti26 := ⟨Tryz.underlying26, by kernel_rfl, rfl, rfl, by rintro fields ⟨⟩; kernel_rfl, (fun _ h => nomatch h)⟩
def ti27 : TI := ⟨Go.TypeDesc.struct #[{ name := "Cells", type := 24, offset := 0, embedded := false, tag := "", pkgPath := "", byteOffset := 0 }, { name := "Used", type := 25, offset := 1, embedded := false, tag := "", pkgPath := "", byteOffset := 24 }], 2, 48, Go.Value.agg #[Go.Value.slice none 0 0, Go.Value.slice none 0 0], [(0, 1, false), (1, 1, false)], none⟩
theorem q3k : TIok Tryz.prog 27 ti27 := ⟨Tryz.underlying27, by kernel_rfl, rfl, rfl, by rintro fields ⟨⟩; kernel_rfl, (fun _ h => nomatch h)⟩
def ti28 : TI := ⟨Go.TypeDesc.slice 42, 1, 24, Go.Value.slice none 0 0, [], none⟩
theorem q3l : TIok Tryz.prog 28 ti28 := ⟨Tryz.underlying28, by kernel_rfl, rfl, rfl, (fun _ h => nomatch h), (fun _ h => nomatch h)⟩
def ti29 : TI := ⟨Go.TypeDesc.struct #[{ name := "Entries", type := 28, offset := 0, embedded := false, tag := "", pkgPath := "", byteOffset := 0 }], 1, 24, Go.Value.agg #[Go.Value.slice none 0 0], [(0, 1, false)], none⟩
theorem q3m : TIok Tryz.prog 29 ti29 := ⟨Tryz.underlying29, by kernel_rfl, rfl, rfl, by rintro fields ⟨⟩; kernel_rfl, (fun _ h => nomatch h)⟩
def ti30 : TI := ⟨Go.TypeDesc.struct #[{ name := "Entries", type := 28, offset := 0, embedded := false, tag := "", pkgPath := "", byteOffset := 0 }], 1, 24, Go.Value.agg #[Go.Value.slice none 0 0], [(0, 1, false)], none⟩
theorem q3n : TIok Tryz.prog 30 ti30 := ⟨Tryz.underlying30, by kernel_rfl, rfl, rfl, by rintro fields ⟨⟩; kernel_rfl, (fun _ h => nomatch h)⟩
def ti31 : TI := ⟨Go.TypeDesc.struct #[{ name := "Frames", type := 27, offset := 0, embedded := false, tag := "", pkgPath := "", byteOffset := 0 }, { name := "Table", type := 30, offset := 2, embedded := false, tag := "", pkgPath := "", byteOffset := 48 }], 3, 72, Go.Value.agg #[Go.Value.slice none 0 0, Go.Value.slice none 0 0, Go.Value.slice none 0 0], [(0, 2, true), (2, 1, true)], none⟩
theorem q3o : TIok Tryz.prog 31 ti31 := ⟨Tryz.underlying31, by kernel_rfl, rfl, rfl, by rintro fields ⟨⟩; kernel_rfl, (fun _ h => nomatch h)⟩
def ti32 : TI := ⟨Go.TypeDesc.struct #[{ name := "Frames", type := 27, offset := 0, embedded := false, tag := "", pkgPath := "", byteOffset := 0 }, { name := "Table", type := 30, offset := 2, embedded := false, tag := "", pkgPath := "", byteOffset := 48 }], 3, 72, Go.Value.agg #[Go.Value.slice none 0 0, Go.Value.slice none 0 0, Go.Value.slice none 0 0], [(0, 2, true), (2, 1, true)], none⟩
theorem q3p : TIok Tryz.prog 32 ti32 := ⟨Tryz.underlying32, by kernel_rfl, rfl, rfl, by rintro fields ⟨⟩; kernel_rfl, (fun _ h => nomatch h)⟩
def ti33 : TI := ⟨Go.TypeDesc.slice 3, 1, 24, Go.Value.slice none 0 0, [], none⟩
theorem q3q : TIok Tryz.prog 33 ti33 := ⟨Tryz.underlying33, by kernel_rfl, rfl, rfl, (fun _ h => nomatch h), (fun _ h => nomatch h)⟩
def ti34 : TI := ⟨Go.TypeDesc.struct #[{ name := "Machine", type := 32, offset := 0, embedded := false, tag := "", pkgPath := "", byteOffset := 0 }, { name := "Calls", type := 3, offset := 3, embedded := false, tag := "", pkgPath := "", byteOffset := 72 }, { name := "Refuse", type := 33, offset := 4, embedded := false, tag := "", pkgPath := "", byteOffset := 80 }], 5, 104, Go.Value.agg #[Go.Value.slice none 0 0, Go.Value.slice none 0 0, Go.Value.slice none 0 0, Go.Value.int Go.IntKind.i64 0, Go.Value.slice none 0 0], [(0, 3, true), (3, 1, false), (4, 1, false)], none⟩
theorem q3r : TIok Tryz.prog 34 ti34 := ⟨Tryz.underlying34, by kernel_rfl, rfl, rfl, by rintro fields ⟨⟩; kernel_rfl, (fun _ h => nomatch h)⟩
def ti35 : TI := ⟨Go.TypeDesc.struct #[{ name := "Machine", type := 32, offset := 0, embedded := false, tag := "", pkgPath := "", byteOffset := 0 }, { name := "Calls", type := 3, offset := 3, embedded := false, tag := "", pkgPath := "", byteOffset := 72 }, { name := "Refuse", type := 33, offset := 4, embedded := false, tag := "", pkgPath := "", byteOffset := 80 }], 5, 104, Go.Value.agg #[Go.Value.slice none 0 0, Go.Value.slice none 0 0, Go.Value.slice none 0 0, Go.Value.int Go.IntKind.i64 0, Go.Value.slice none 0 0], [(0, 3, true), (3, 1, false), (4, 1, false)], none⟩
theorem q3s : TIok Tryz.prog 35 ti35 := ⟨Tryz.underlying35, by kernel_rfl, rfl, rfl, by rintro fields ⟨⟩; kernel_rfl, (fun _ h => nomatch h)⟩
def ti36 : TI := ⟨Go.TypeDesc.struct #[{ name := "Keep", type := 3, offset := 0, embedded := false, tag := "", pkgPath := "", byteOffset := 0 }, { name := "Move", type := 3, offset := 1, embedded := false, tag := "", pkgPath := "", byteOffset := 8 }, { name := "Cells", type := 33, offset := 2, embedded := false, tag := "", pkgPath := "", byteOffset := 16 }], 3, 40, Go.Value.agg #[Go.Value.int Go.IntKind.i64 0, Go.Value.int Go.IntKind.i64 0, Go.Value.slice none 0 0], [(0, 1, false), (1, 1, false), (2, 1, false)], none⟩
theorem q3t : TIok Tryz.prog 36 ti36 := ⟨Tryz.underlying36, by kernel_rfl, rfl, rfl, by rintro fields ⟨⟩; kernel_rfl, (fun _ h => nomatch h)⟩
def ti37 : TI := ⟨Go.TypeDesc.struct #[{ name := "Keep", type := 3, offset := 0, embedded := false, tag := "", pkgPath := "", byteOffset := 0 }, { name := "Move", type := 3, offset := 1, embedded := false, tag := "", pkgPath := "", byteOffset := 8 }, { name := "Cells", type := 33, offset := 2, embedded := false, tag := "", pkgPath := "", byteOffset := 16 }], 3, 40, Go.Value.agg #[Go.Value.int Go.IntKind.i64 0, Go.Value.int Go.IntKind.i64 0, Go.Value.slice none 0 0], [(0, 1, false), (1, 1, false), (2, 1, false)], none⟩
theorem q3u : TIok Tryz.prog 37 ti37 := ⟨Tryz.underlying37, by kernel_rfl, rfl, rfl, by rintro fields ⟨⟩; kernel_rfl, (fun _ h => nomatch h)⟩
def ti38 : TI := ⟨Go.TypeDesc.slice 46, 1, 24, Go.Value.slice none 0 0, [], none⟩
theorem q3v : TIok Tryz.prog 38 ti38 := ⟨Tryz.underlying38, by kernel_rfl, rfl, rfl, (fun _ h => nomatch h), (fun _ h => nomatch h)⟩
def ti41 : TI := ⟨Go.TypeDesc.struct #[{ name := "Mode", type := 3, offset := 0, embedded := false, tag := "", pkgPath := "", byteOffset := 0 }, { name := "Frame", type := 3, offset := 1, embedded := false, tag := "", pkgPath := "", byteOffset := 8 }], 2, 16, Go.Value.agg #[Go.Value.int Go.IntKind.i64 0, Go.Value.int Go.IntKind.i64 0], [(0, 1, false), (1, 1, false)], none⟩
theorem q3w : TIok Tryz.prog 41 ti41 := ⟨Tryz.underlying41, by kernel_rfl, rfl, rfl, by rintro fields ⟨⟩; kernel_rfl, (fun _ h => nomatch h)⟩
def ti42 : TI := ⟨Go.TypeDesc.struct #[{ name := "Mode", type := 3, offset := 0, embedded := false, tag := "", pkgPath := "", byteOffset := 0 }, { name := "Frame", type := 3, offset := 1, embedded := false, tag := "", pkgPath := "", byteOffset := 8 }], 2, 16, Go.Value.agg #[Go.Value.int Go.IntKind.i64 0, Go.Value.int Go.IntKind.i64 0], [(0, 1, false), (1, 1, false)], some [some .i64, some .i64]⟩
theorem q3x : TIok Tryz.prog 42 ti42 := ⟨Tryz.underlying42, by kernel_rfl, rfl, rfl, by rintro fields ⟨⟩; kernel_rfl, by rintro sh ⟨⟩; exact ⟨by kernel_rfl, by kernel_rfl, by kernel_rfl, by kernel_rfl⟩⟩
def ti45 : TI := ⟨Go.TypeDesc.struct #[{ name := "Addr", type := 3, offset := 0, embedded := false, tag := "", pkgPath := "", byteOffset := 0 }, { name := "Value", type := 3, offset := 1, embedded := false, tag := "", pkgPath := "", byteOffset := 8 }, { name := "Done", type := 4, offset := 2, embedded := false, tag := "", pkgPath := "", byteOffset := 16 }, { name := "Waits", type := 3, offset := 3, embedded := false, tag := "", pkgPath := "", byteOffset := 24 }], 4, 32, Go.Value.agg #[Go.Value.int Go.IntKind.i64 0, Go.Value.int Go.IntKind.i64 0, Go.Value.bool false, Go.Value.int Go.IntKind.i64 0], [(0, 1, false), (1, 1, false), (2, 1, false), (3, 1, false)], none⟩
theorem q3y : TIok Tryz.prog 45 ti45 := ⟨Tryz.underlying45, by kernel_rfl, rfl, rfl, by rintro fields ⟨⟩; kernel_rfl, (fun _ h => nomatch h)⟩
def ti46 : TI := ⟨Go.TypeDesc.struct #[{ name := "Addr", type := 3, offset := 0, embedded := false, tag := "", pkgPath := "", byteOffset := 0 }, { name := "Value", type := 3, offset := 1, embedded := false, tag := "", pkgPath := "", byteOffset := 8 }, { name := "Done", type := 4, offset := 2, embedded := false, tag := "", pkgPath := "", byteOffset := 16 }, { name := "Waits", type := 3, offset := 3, embedded := false, tag := "", pkgPath := "", byteOffset := 24 }], 4, 32, Go.Value.agg #[Go.Value.int Go.IntKind.i64 0, Go.Value.int Go.IntKind.i64 0, Go.Value.bool false, Go.Value.int Go.IntKind.i64 0], [(0, 1, false), (1, 1, false), (2, 1, false), (3, 1, false)], some [some .i64, some .i64, none, some .i64]⟩
theorem q31 : TIok Tryz.prog 46 ti46 := ⟨Tryz.underlying46, by kernel_rfl, rfl, rfl, by rintro fields ⟨⟩; kernel_rfl, by rintro sh ⟨⟩; exact ⟨by kernel_rfl, by kernel_rfl, by kernel_rfl, by kernel_rfl⟩⟩
def ti47 : TI := ⟨Go.TypeDesc.struct #[{ name := "Plan", type := 37, offset := 0, embedded := false, tag := "", pkgPath := "", byteOffset := 0 }, { name := "Phase", type := 3, offset := 3, embedded := false, tag := "", pkgPath := "", byteOffset := 40 }, { name := "Next", type := 3, offset := 4, embedded := false, tag := "", pkgPath := "", byteOffset := 48 }], 5, 56, Go.Value.agg #[Go.Value.int Go.IntKind.i64 0, Go.Value.int Go.IntKind.i64 0, Go.Value.slice none 0 0, Go.Value.int Go.IntKind.i64 0, Go.Value.int Go.IntKind.i64 0], [(0, 3, true), (3, 1, false), (4, 1, false)], none⟩
theorem q33 : TIok Tryz.prog 47 ti47 := ⟨Tryz.underlying47, by kernel_rfl, rfl, rfl, by rintro fields ⟨⟩; kernel_rfl, (fun _ h => nomatch h)⟩
def ti48 : TI := ⟨Go.TypeDesc.struct #[{ name := "Plan", type := 37, offset := 0, embedded := false, tag := "", pkgPath := "", byteOffset := 0 }, { name := "Phase", type := 3, offset := 3, embedded := false, tag := "", pkgPath := "", byteOffset := 40 }, { name := "Next", type := 3, offset := 4, embedded := false, tag := "", pkgPath := "", byteOffset := 48 }], 5, 56, Go.Value.agg #[Go.Value.int Go.IntKind.i64 0, Go.Value.int Go.IntKind.i64 0, Go.Value.slice none 0 0, Go.Value.int Go.IntKind.i64 0, Go.Value.int Go.IntKind.i64 0], [(0, 3, true), (3, 1, false), (4, 1, false)], none⟩
theorem q34 : TIok Tryz.prog 48 ti48 := ⟨Tryz.underlying48, by kernel_rfl, rfl, rfl, by rintro fields ⟨⟩; kernel_rfl, (fun _ h => nomatch h)⟩
def ti60 : TI := ⟨Go.TypeDesc.struct #[{ name := "Cells", type := 24, offset := 0, embedded := false, tag := "", pkgPath := "", byteOffset := 0 }, { name := "Used", type := 25, offset := 1, embedded := false, tag := "", pkgPath := "", byteOffset := 24 }], 2, 48, Go.Value.agg #[Go.Value.slice none 0 0, Go.Value.slice none 0 0], [(0, 1, false), (1, 1, false)], none⟩
theorem q36 : TIok Tryz.prog 60 ti60 := ⟨Tryz.underlying60, by kernel_rfl, rfl, rfl, by rintro fields ⟨⟩; kernel_rfl, (fun _ h => nomatch h)⟩
def ti61 : TI := ⟨Go.TypeDesc.slice 200, 1, 24, Go.Value.slice none 0 0, [], none⟩
theorem q38 : TIok Tryz.prog 61 ti61 := ⟨Tryz.underlying61, by kernel_rfl, rfl, rfl, (fun _ h => nomatch h), (fun _ h => nomatch h)⟩
def ti62 : TI := ⟨Go.TypeDesc.struct #[{ name := "Entries", type := 61, offset := 0, embedded := false, tag := "", pkgPath := "", byteOffset := 0 }], 1, 24, Go.Value.agg #[Go.Value.slice none 0 0], [(0, 1, false)], none⟩
theorem q39 : TIok Tryz.prog 62 ti62 := ⟨Tryz.underlying62, by kernel_rfl, rfl, rfl, by rintro fields ⟨⟩; kernel_rfl, (fun _ h => nomatch h)⟩
def ti63 : TI := ⟨Go.TypeDesc.struct #[{ name := "Entries", type := 61, offset := 0, embedded := false, tag := "", pkgPath := "", byteOffset := 0 }], 1, 24, Go.Value.agg #[Go.Value.slice none 0 0], [(0, 1, false)], none⟩
theorem q4a : TIok Tryz.prog 63 ti63 := ⟨Tryz.underlying63, by kernel_rfl, rfl, rfl, by rintro fields ⟨⟩; kernel_rfl, (fun _ h => nomatch h)⟩
def ti64 : TI := ⟨Go.TypeDesc.struct #[{ name := "Frames", type := 60, offset := 0, embedded := false, tag := "", pkgPath := "", byteOffset := 0 }, { name := "Table", type := 63, offset := 2, embedded := false, tag := "", pkgPath := "", byteOffset := 48 }], 3, 72, Go.Value.agg #[Go.Value.slice none 0 0, Go.Value.slice none 0 0, Go.Value.slice none 0 0], [(0, 2, true), (2, 1, true)], none⟩
theorem q4b : TIok Tryz.prog 64 ti64 := ⟨Tryz.underlying64, by kernel_rfl, rfl, rfl, by rintro fields ⟨⟩; kernel_rfl, (fun _ h => nomatch h)⟩
def ti65 : TI := ⟨Go.TypeDesc.struct #[{ name := "Frames", type := 60, offset := 0, embedded := false, tag := "", pkgPath := "", byteOffset := 0 }, { name := "Table", type := 63, offset := 2, embedded := false, tag := "", pkgPath := "", byteOffset := 48 }], 3, 72, Go.Value.agg #[Go.Value.slice none 0 0, Go.Value.slice none 0 0, Go.Value.slice none 0 0], [(0, 2, true), (2, 1, true)], none⟩
theorem q4c : TIok Tryz.prog 65 ti65 := ⟨Tryz.underlying65, by kernel_rfl, rfl, rfl, by rintro fields ⟨⟩; kernel_rfl, (fun _ h => nomatch h)⟩
def ti66 : TI := ⟨Go.TypeDesc.struct #[{ name := "Machine", type := 65, offset := 0, embedded := false, tag := "", pkgPath := "", byteOffset := 0 }, { name := "Calls", type := 3, offset := 3, embedded := false, tag := "", pkgPath := "", byteOffset := 72 }, { name := "Refuse", type := 33, offset := 4, embedded := false, tag := "", pkgPath := "", byteOffset := 80 }], 5, 104, Go.Value.agg #[Go.Value.slice none 0 0, Go.Value.slice none 0 0, Go.Value.slice none 0 0, Go.Value.int Go.IntKind.i64 0, Go.Value.slice none 0 0], [(0, 3, true), (3, 1, false), (4, 1, false)], none⟩
theorem q4d : TIok Tryz.prog 66 ti66 := ⟨Tryz.underlying66, by kernel_rfl, rfl, rfl, by rintro fields ⟨⟩; kernel_rfl, (fun _ h => nomatch h)⟩
def ti67 : TI := ⟨Go.TypeDesc.struct #[{ name := "Machine", type := 65, offset := 0, embedded := false, tag := "", pkgPath := "", byteOffset := 0 }, { name := "Calls", type := 3, offset := 3, embedded := false, tag := "", pkgPath := "", byteOffset := 72 }, { name := "Refuse", type := 33, offset := 4, embedded := false, tag := "", pkgPath := "", byteOffset := 80 }], 5, 104, Go.Value.agg #[Go.Value.slice none 0 0, Go.Value.slice none 0 0, Go.Value.slice none 0 0, Go.Value.int Go.IntKind.i64 0, Go.Value.slice none 0 0], [(0, 3, true), (3, 1, false), (4, 1, false)], none⟩
theorem q4e : TIok Tryz.prog 67 ti67 := ⟨Tryz.underlying67, by kernel_rfl, rfl, rfl, by rintro fields ⟨⟩; kernel_rfl, (fun _ h => nomatch h)⟩
def ti68 : TI := ⟨Go.TypeDesc.struct #[{ name := "Keep", type := 3, offset := 0, embedded := false, tag := "", pkgPath := "", byteOffset := 0 }, { name := "Move", type := 3, offset := 1, embedded := false, tag := "", pkgPath := "", byteOffset := 8 }, { name := "Cells", type := 33, offset := 2, embedded := false, tag := "", pkgPath := "", byteOffset := 16 }], 3, 40, Go.Value.agg #[Go.Value.int Go.IntKind.i64 0, Go.Value.int Go.IntKind.i64 0, Go.Value.slice none 0 0], [(0, 1, false), (1, 1, false), (2, 1, false)], none⟩
theorem q4f : TIok Tryz.prog 68 ti68 := ⟨Tryz.underlying68, by kernel_rfl, rfl, rfl, by rintro fields ⟨⟩; kernel_rfl, (fun _ h => nomatch h)⟩
def ti69 : TI := ⟨Go.TypeDesc.struct #[{ name := "Plan", type := 68, offset := 0, embedded := false, tag := "", pkgPath := "", byteOffset := 0 }, { name := "Phase", type := 3, offset := 3, embedded := false, tag := "", pkgPath := "", byteOffset := 40 }, { name := "Next", type := 3, offset := 4, embedded := false, tag := "", pkgPath := "", byteOffset := 48 }], 5, 56, Go.Value.agg #[Go.Value.int Go.IntKind.i64 0, Go.Value.int Go.IntKind.i64 0, Go.Value.slice none 0 0, Go.Value.int Go.IntKind.i64 0, Go.Value.int Go.IntKind.i64 0], [(0, 3, true), (3, 1, false), (4, 1, false)], none⟩
theorem q4g : TIok Tryz.prog 69 ti69 := ⟨Tryz.underlying69, by kernel_rfl, rfl, rfl, by rintro fields ⟨⟩; kernel_rfl, (fun _ h => nomatch h)⟩
def ti70 : TI := ⟨Go.TypeDesc.struct #[{ name := "Plan", type := 68, offset := 0, embedded := false, tag := "", pkgPath := "", byteOffset := 0 }, { name := "Phase", type := 3, offset := 3, embedded := false, tag := "", pkgPath := "", byteOffset := 40 }, { name := "Next", type := 3, offset := 4, embedded := false, tag := "", pkgPath := "", byteOffset := 48 }], 5, 56, Go.Value.agg #[Go.Value.int Go.IntKind.i64 0, Go.Value.int Go.IntKind.i64 0, Go.Value.slice none 0 0, Go.Value.int Go.IntKind.i64 0, Go.Value.int Go.IntKind.i64 0], [(0, 3, true), (3, 1, false), (4, 1, false)], none⟩
theorem q4h : TIok Tryz.prog 70 ti70 := ⟨Tryz.underlying70, by kernel_rfl, rfl, rfl, by rintro fields ⟨⟩; kernel_rfl, (fun _ h => nomatch h)⟩
def ti71 : TI := ⟨Go.TypeDesc.slice 119, 1, 24, Go.Value.slice none 0 0, [], none⟩
theorem q4i : TIok Tryz.prog 71 ti71 := ⟨Tryz.underlying71, by kernel_rfl, rfl, rfl, (fun _ h => nomatch h), (fun _ h => nomatch h)⟩
def ti88 : TI := ⟨Go.TypeDesc.pointer 126, 1, 8, Go.Value.pointer none, [], none⟩
theorem q4j : TIok Tryz.prog 88 ti88 := ⟨Tryz.underlying88, by kernel_rfl, rfl, rfl, (fun _ h => nomatch h), (fun _ h => nomatch h)⟩
def q5v : TI := ⟨Go.TypeDesc.pointer 35, 1, 8, Go.Value.pointer none, [], none⟩
theorem qzg : TIok Tryz.prog 113 q5v := ⟨Tryz.underlying113, by kernel_rfl, rfl, rfl, (fun _ h => nomatch h), (fun _ h => nomatch h)⟩
def q5w : TI := ⟨Go.TypeDesc.pointer 48, 1, 8, Go.Value.pointer none, [], none⟩
theorem qzh : TIok Tryz.prog 114 q5w := ⟨Tryz.underlying114, by kernel_rfl, rfl, rfl, (fun _ h => nomatch h), (fun _ h => nomatch h)⟩
def q5x : TI := ⟨Go.TypeDesc.struct #[{ name := "Addr", type := 3, offset := 0, embedded := false, tag := "", pkgPath := "", byteOffset := 0 }, { name := "Value", type := 3, offset := 1, embedded := false, tag := "", pkgPath := "", byteOffset := 8 }, { name := "Done", type := 4, offset := 2, embedded := false, tag := "", pkgPath := "", byteOffset := 16 }, { name := "Waits", type := 3, offset := 3, embedded := false, tag := "", pkgPath := "", byteOffset := 24 }], 4, 32, Go.Value.agg #[Go.Value.int Go.IntKind.i64 0, Go.Value.int Go.IntKind.i64 0, Go.Value.bool false, Go.Value.int Go.IntKind.i64 0], [(0, 1, false), (1, 1, false), (2, 1, false), (3, 1, false)], some [some .i64, some .i64, none, some .i64]⟩
theorem qzi : TIok Tryz.prog 119 q5x := ⟨Tryz.underlying119, by kernel_rfl, rfl, rfl, by rintro fields ⟨⟩; kernel_rfl, by rintro sh ⟨⟩; exact ⟨by kernel_rfl, by kernel_rfl, by kernel_rfl, by kernel_rfl⟩⟩
def q5y : TI := ⟨Go.TypeDesc.struct #[{ name := "b", type := 22, offset := 0, embedded := false, tag := "", pkgPath := "loop.example/g00978/spec", byteOffset := 0 }, { name := "i", type := 3, offset := 1, embedded := false, tag := "", pkgPath := "loop.example/g00978/spec", byteOffset := 24 }, { name := "h", type := 3, offset := 2, embedded := false, tag := "", pkgPath := "loop.example/g00978/spec", byteOffset := 32 }], 3, 40, Go.Value.agg #[Go.Value.slice none 0 0, Go.Value.int Go.IntKind.i64 0, Go.Value.int Go.IntKind.i64 0], [(0, 1, false), (1, 1, false), (2, 1, false)], none⟩
theorem qzj : TIok Tryz.prog 125 q5y := ⟨Tryz.underlying125, by kernel_rfl, rfl, rfl, by rintro fields ⟨⟩; kernel_rfl, (fun _ h => nomatch h)⟩
def q50 : TI := ⟨Go.TypeDesc.struct #[{ name := "b", type := 22, offset := 0, embedded := false, tag := "", pkgPath := "loop.example/g00978/spec", byteOffset := 0 }, { name := "i", type := 3, offset := 1, embedded := false, tag := "", pkgPath := "loop.example/g00978/spec", byteOffset := 24 }, { name := "h", type := 3, offset := 2, embedded := false, tag := "", pkgPath := "loop.example/g00978/spec", byteOffset := 32 }], 3, 40, Go.Value.agg #[Go.Value.slice none 0 0, Go.Value.int Go.IntKind.i64 0, Go.Value.int Go.IntKind.i64 0], [(0, 1, false), (1, 1, false), (2, 1, false)], none⟩
theorem qzk : TIok Tryz.prog 126 q50 := ⟨Tryz.underlying126, by kernel_rfl, rfl, rfl, by rintro fields ⟨⟩; kernel_rfl, (fun _ h => nomatch h)⟩
def q51 : TI := ⟨Go.TypeDesc.func #[35, 48] #[35, 48] false, 1, 8, Go.Value.nilFunc, [], none⟩
theorem qzl : TIok Tryz.prog 137 q51 := ⟨Tryz.underlying137, by kernel_rfl, rfl, rfl, (fun _ h => nomatch h), (fun _ h => nomatch h)⟩
def q52 : TI := ⟨Go.TypeDesc.array 6 137, 6, 48, Go.Value.agg #[Go.Value.nilFunc, Go.Value.nilFunc, Go.Value.nilFunc, Go.Value.nilFunc, Go.Value.nilFunc, Go.Value.nilFunc], [], none⟩
theorem qzm : TIok Tryz.prog 138 q52 := ⟨Tryz.underlying138, by kernel_rfl, rfl, rfl, (fun _ h => nomatch h), (fun _ h => nomatch h)⟩
def q53 : TI := ⟨Go.TypeDesc.interface #[("Error", 226)], 1, 16, Go.Value.nilIface, [], none⟩
theorem qzn : TIok Tryz.prog 146 q53 := ⟨Tryz.underlying146, by kernel_rfl, rfl, rfl, (fun _ h => nomatch h), (fun _ h => nomatch h)⟩
def q54 : TI := ⟨Go.TypeDesc.int Go.IntKind.u64, 1, 8, Go.Value.int Go.IntKind.u64 0, [], none⟩
theorem qzo : TIok Tryz.prog 191 q54 := ⟨Tryz.underlying191, by kernel_rfl, rfl, rfl, (fun _ h => nomatch h), (fun _ h => nomatch h)⟩
def q55 : TI := ⟨Go.TypeDesc.interface #[("AssignableTo", 242), ("Comparable", 197), ("Elem", 243), ("Implements", 242), ("Kind", 244), ("Name", 226), ("PkgPath", 226), ("Size", 245), ("String", 226), ("internal/reflectlite.common", 246), ("internal/reflectlite.uncommon", 247)], 1, 16, Go.Value.nilIface, [], none⟩
theorem qzp : TIok Tryz.prog 195 q55 := ⟨Tryz.underlying195, by kernel_rfl, rfl, rfl, (fun _ h => nomatch h), (fun _ h => nomatch h)⟩
def q56 : TI := ⟨Go.TypeDesc.struct #[{ name := "Mode", type := 3, offset := 0, embedded := false, tag := "", pkgPath := "", byteOffset := 0 }, { name := "Frame", type := 3, offset := 1, embedded := false, tag := "", pkgPath := "", byteOffset := 8 }], 2, 16, Go.Value.agg #[Go.Value.int Go.IntKind.i64 0, Go.Value.int Go.IntKind.i64 0], [(0, 1, false), (1, 1, false)], some [some .i64, some .i64]⟩
theorem qzq : TIok Tryz.prog 200 q56 := ⟨Tryz.underlying200, by kernel_rfl, rfl, rfl, by rintro fields ⟨⟩; kernel_rfl, by rintro sh ⟨⟩; exact ⟨by kernel_rfl, by kernel_rfl, by kernel_rfl, by kernel_rfl⟩⟩
def q57 : TI := ⟨Go.TypeDesc.struct #[{ name := "Type", type := 17, offset := 0, embedded := true, tag := "", pkgPath := "", byteOffset := 0 }], 1, 8, Go.Value.agg #[Go.Value.pointer none], [(0, 1, false)], none⟩
theorem qzr : TIok Tryz.prog 204 q57 := ⟨Tryz.underlying204, by kernel_rfl, rfl, rfl, by rintro fields ⟨⟩; kernel_rfl, (fun _ h => nomatch h)⟩
def q58 : TI := ⟨Go.TypeDesc.struct #[{ name := "Type", type := 17, offset := 0, embedded := true, tag := "", pkgPath := "", byteOffset := 0 }], 1, 8, Go.Value.agg #[Go.Value.pointer none], [(0, 1, false)], none⟩
theorem qzs : TIok Tryz.prog 205 q58 := ⟨Tryz.underlying205, by kernel_rfl, rfl, rfl, by rintro fields ⟨⟩; kernel_rfl, (fun _ h => nomatch h)⟩
def q59 : TI := ⟨Go.TypeDesc.pointer 249, 1, 8, Go.Value.pointer none, [], none⟩
theorem qzt : TIok Tryz.prog 206 q59 := ⟨Tryz.underlying206, by kernel_rfl, rfl, rfl, (fun _ h => nomatch h), (fun _ h => nomatch h)⟩
def q6a : TI := ⟨Go.TypeDesc.slice 146, 1, 24, Go.Value.slice none 0 0, [], none⟩
theorem qzu : TIok Tryz.prog 213 q6a := ⟨Tryz.underlying213, by kernel_rfl, rfl, rfl, (fun _ h => nomatch h), (fun _ h => nomatch h)⟩
def q6b : TI := ⟨Go.TypeDesc.interface #[("loop.example/g00978/impl.grants", 174)], 1, 16, Go.Value.nilIface, [], none⟩
theorem qzv : TIok Tryz.prog 216 q6b := ⟨Tryz.underlying216, by kernel_rfl, rfl, rfl, (fun _ h => nomatch h), (fun _ h => nomatch h)⟩
def q6c : TI := ⟨Go.TypeDesc.struct #[], 0, 0, Go.Value.agg #[], [], none⟩
theorem qzw : TIok Tryz.prog 220 q6c := ⟨Tryz.underlying220, by kernel_rfl, rfl, rfl, by rintro fields ⟨⟩; kernel_rfl, (fun _ h => nomatch h)⟩
def q6d : TI := ⟨Go.TypeDesc.struct #[], 0, 0, Go.Value.agg #[], [], none⟩
theorem qzx : TIok Tryz.prog 221 q6d := ⟨Tryz.underlying221, by kernel_rfl, rfl, rfl, by rintro fields ⟨⟩; kernel_rfl, (fun _ h => nomatch h)⟩
def q6e : TI := ⟨Go.TypeDesc.struct #[{ name := "calls", type := 33, offset := 0, embedded := false, tag := "", pkgPath := "loop.example/g00978/impl", byteOffset := 0 }], 1, 24, Go.Value.agg #[Go.Value.slice none 0 0], [(0, 1, false)], none⟩
theorem qzy : TIok Tryz.prog 222 q6e := ⟨Tryz.underlying222, by kernel_rfl, rfl, rfl, by rintro fields ⟨⟩; kernel_rfl, (fun _ h => nomatch h)⟩
def q6f : TI := ⟨Go.TypeDesc.struct #[{ name := "calls", type := 33, offset := 0, embedded := false, tag := "", pkgPath := "loop.example/g00978/impl", byteOffset := 0 }], 1, 24, Go.Value.agg #[Go.Value.slice none 0 0], [(0, 1, false)], none⟩
theorem qzz : TIok Tryz.prog 223 q6f := ⟨Tryz.underlying223, by kernel_rfl, rfl, rfl, by rintro fields ⟨⟩; kernel_rfl, (fun _ h => nomatch h)⟩
def q6g : TI := ⟨Go.TypeDesc.pointer 251, 1, 8, Go.Value.pointer none, [], none⟩
theorem qz0 : TIok Tryz.prog 225 q6g := ⟨Tryz.underlying225, by kernel_rfl, rfl, rfl, (fun _ h => nomatch h), (fun _ h => nomatch h)⟩
def q6h : TI := ⟨Go.TypeDesc.struct #[{ name := "_interface", type := 17, offset := 0, embedded := false, tag := "", pkgPath := "runtime", byteOffset := 0 }, { name := "concrete", type := 17, offset := 1, embedded := false, tag := "", pkgPath := "runtime", byteOffset := 8 }, { name := "asserted", type := 17, offset := 2, embedded := false, tag := "", pkgPath := "runtime", byteOffset := 16 }, { name := "missingMethod", type := 9, offset := 3, embedded := false, tag := "", pkgPath := "runtime", byteOffset := 24 }], 4, 40, Go.Value.agg #[Go.Value.pointer none, Go.Value.pointer none, Go.Value.pointer none, Go.Value.string { data := #[] }], [(0, 1, false), (1, 1, false), (2, 1, false), (3, 1, false)], none⟩
theorem qz1 : TIok Tryz.prog 227 q6h := ⟨Tryz.underlying227, by kernel_rfl, rfl, rfl, by rintro fields ⟨⟩; kernel_rfl, (fun _ h => nomatch h)⟩
def q6i : TI := ⟨Go.TypeDesc.struct #[{ name := "_interface", type := 17, offset := 0, embedded := false, tag := "", pkgPath := "runtime", byteOffset := 0 }, { name := "concrete", type := 17, offset := 1, embedded := false, tag := "", pkgPath := "runtime", byteOffset := 8 }, { name := "asserted", type := 17, offset := 2, embedded := false, tag := "", pkgPath := "runtime", byteOffset := 16 }, { name := "missingMethod", type := 9, offset := 3, embedded := false, tag := "", pkgPath := "runtime", byteOffset := 24 }], 4, 40, Go.Value.agg #[Go.Value.pointer none, Go.Value.pointer none, Go.Value.pointer none, Go.Value.string { data := #[] }], [(0, 1, false), (1, 1, false), (2, 1, false), (3, 1, false)], none⟩
theorem qz2 : TIok Tryz.prog 228 q6i := ⟨Tryz.underlying228, by kernel_rfl, rfl, rfl, by rintro fields ⟨⟩; kernel_rfl, (fun _ h => nomatch h)⟩
def q6j : TI := ⟨Go.TypeDesc.array 0 16, 0, 0, Go.Value.agg #[], [], none⟩
theorem qz3 : TIok Tryz.prog 229 q6j := ⟨Tryz.underlying229, by kernel_rfl, rfl, rfl, (fun _ h => nomatch h), (fun _ h => nomatch h)⟩
def q6k : TI := ⟨Go.TypeDesc.struct #[{ name := "_", type := 229, offset := 0, embedded := false, tag := "", pkgPath := "runtime", byteOffset := 0 }], 0, 0, Go.Value.agg #[], [(0, 0, true)], none⟩
theorem qz4 : TIok Tryz.prog 230 q6k := ⟨Tryz.underlying230, by kernel_rfl, rfl, rfl, by rintro fields ⟨⟩; kernel_rfl, (fun _ h => nomatch h)⟩
def q6l : TI := ⟨Go.TypeDesc.struct #[{ name := "_", type := 229, offset := 0, embedded := false, tag := "", pkgPath := "runtime", byteOffset := 0 }], 0, 0, Go.Value.agg #[], [(0, 0, true)], none⟩
theorem qz5 : TIok Tryz.prog 231 q6l := ⟨Tryz.underlying231, by kernel_rfl, rfl, rfl, by rintro fields ⟨⟩; kernel_rfl, (fun _ h => nomatch h)⟩
def q6m : TI := ⟨Go.TypeDesc.int Go.IntKind.u32, 1, 4, Go.Value.int Go.IntKind.u32 0, [], none⟩
theorem qz6 : TIok Tryz.prog 233 q6m := ⟨Tryz.underlying233, by kernel_rfl, rfl, rfl, (fun _ h => nomatch h), (fun _ h => nomatch h)⟩
def q6n : TI := ⟨Go.TypeDesc.int Go.IntKind.u8, 1, 1, Go.Value.int Go.IntKind.u8 0, [], none⟩
theorem qz7 : TIok Tryz.prog 234 q6n := ⟨Tryz.underlying234, by kernel_rfl, rfl, rfl, (fun _ h => nomatch h), (fun _ h => nomatch h)⟩
def q6o : TI := ⟨Go.TypeDesc.int Go.IntKind.u8, 1, 1, Go.Value.int Go.IntKind.u8 0, [], none⟩
theorem qz8 : TIok Tryz.prog 235 q6o := ⟨Tryz.underlying235, by kernel_rfl, rfl, rfl, (fun _ h => nomatch h), (fun _ h => nomatch h)⟩
def q6p : TI := ⟨Go.TypeDesc.pointer 5, 1, 8, Go.Value.pointer none, [], none⟩
theorem qz9 : TIok Tryz.prog 237 q6p := ⟨Tryz.underlying237, by kernel_rfl, rfl, rfl, (fun _ h => nomatch h), (fun _ h => nomatch h)⟩
def q6q : TI := ⟨Go.TypeDesc.int Go.IntKind.i32, 1, 4, Go.Value.int Go.IntKind.i32 0, [], none⟩
theorem q0a : TIok Tryz.prog 238 q6q := ⟨Tryz.underlying238, by kernel_rfl, rfl, rfl, (fun _ h => nomatch h), (fun _ h => nomatch h)⟩
def q6r : TI := ⟨Go.TypeDesc.int Go.IntKind.i32, 1, 4, Go.Value.int Go.IntKind.i32 0, [], none⟩
theorem q0b : TIok Tryz.prog 239 q6r := ⟨Tryz.underlying239, by kernel_rfl, rfl, rfl, (fun _ h => nomatch h), (fun _ h => nomatch h)⟩
def q6s : TI := ⟨Go.TypeDesc.struct #[{ name := "Method", type := 9, offset := 0, embedded := false, tag := "", pkgPath := "", byteOffset := 0 }, { name := "Kind", type := 235, offset := 1, embedded := false, tag := "", pkgPath := "", byteOffset := 16 }], 2, 24, Go.Value.agg #[Go.Value.string { data := #[] }, Go.Value.int Go.IntKind.u8 0], [(0, 1, false), (1, 1, false)], none⟩
theorem q0c : TIok Tryz.prog 248 q6s := ⟨Tryz.underlying248, by kernel_rfl, rfl, rfl, by rintro fields ⟨⟩; kernel_rfl, (fun _ h => nomatch h)⟩
def q6t : TI := ⟨Go.TypeDesc.struct #[{ name := "Method", type := 9, offset := 0, embedded := false, tag := "", pkgPath := "", byteOffset := 0 }, { name := "Kind", type := 235, offset := 1, embedded := false, tag := "", pkgPath := "", byteOffset := 16 }], 2, 24, Go.Value.agg #[Go.Value.string { data := #[] }, Go.Value.int Go.IntKind.u8 0], [(0, 1, false), (1, 1, false)], none⟩
theorem q0d : TIok Tryz.prog 249 q6t := ⟨Tryz.underlying249, by kernel_rfl, rfl, rfl, by rintro fields ⟨⟩; kernel_rfl, (fun _ h => nomatch h)⟩
def q6u : TI := ⟨Go.TypeDesc.struct #[{ name := "s", type := 9, offset := 0, embedded := false, tag := "", pkgPath := "errors", byteOffset := 0 }], 1, 16, Go.Value.agg #[Go.Value.string { data := #[] }], [(0, 1, false)], none⟩
theorem q0e : TIok Tryz.prog 250 q6u := ⟨Tryz.underlying250, by kernel_rfl, rfl, rfl, by rintro fields ⟨⟩; kernel_rfl, (fun _ h => nomatch h)⟩
def q6v : TI := ⟨Go.TypeDesc.struct #[{ name := "s", type := 9, offset := 0, embedded := false, tag := "", pkgPath := "errors", byteOffset := 0 }], 1, 16, Go.Value.agg #[Go.Value.string { data := #[] }], [(0, 1, false)], none⟩
theorem q0f : TIok Tryz.prog 251 q6v := ⟨Tryz.underlying251, by kernel_rfl, rfl, rfl, by rintro fields ⟨⟩; kernel_rfl, (fun _ h => nomatch h)⟩
def q6w : TI := ⟨Go.TypeDesc.pointer 257, 1, 8, Go.Value.pointer none, [], none⟩
theorem q0g : TIok Tryz.prog 253 q6w := ⟨Tryz.underlying253, by kernel_rfl, rfl, rfl, (fun _ h => nomatch h), (fun _ h => nomatch h)⟩
def q6x : TI := ⟨Go.TypeDesc.int Go.IntKind.u16, 1, 2, Go.Value.int Go.IntKind.u16 0, [], none⟩
theorem q0h : TIok Tryz.prog 255 q6x := ⟨Tryz.underlying255, by kernel_rfl, rfl, rfl, (fun _ h => nomatch h), (fun _ h => nomatch h)⟩
def q6y : TI := ⟨Go.TypeDesc.struct #[{ name := "PkgPath", type := 238, offset := 0, embedded := false, tag := "", pkgPath := "", byteOffset := 0 }, { name := "Mcount", type := 255, offset := 1, embedded := false, tag := "", pkgPath := "", byteOffset := 4 }, { name := "Xcount", type := 255, offset := 2, embedded := false, tag := "", pkgPath := "", byteOffset := 6 }, { name := "Moff", type := 233, offset := 3, embedded := false, tag := "", pkgPath := "", byteOffset := 8 }, { name := "_", type := 233, offset := 4, embedded := false, tag := "", pkgPath := "internal/abi", byteOffset := 12 }], 5, 16, Go.Value.agg #[Go.Value.int Go.IntKind.i32 0, Go.Value.int Go.IntKind.u16 0, Go.Value.int Go.IntKind.u16 0, Go.Value.int Go.IntKind.u32 0, Go.Value.int Go.IntKind.u32 0], [(0, 1, false), (1, 1, false), (2, 1, false), (3, 1, false), (4, 1, false)], none⟩
theorem q0i : TIok Tryz.prog 256 q6y := ⟨Tryz.underlying256, by kernel_rfl, rfl, rfl, by rintro fields ⟨⟩; kernel_rfl, (fun _ h => nomatch h)⟩
def q60 : TI := ⟨Go.TypeDesc.struct #[{ name := "PkgPath", type := 238, offset := 0, embedded := false, tag := "", pkgPath := "", byteOffset := 0 }, { name := "Mcount", type := 255, offset := 1, embedded := false, tag := "", pkgPath := "", byteOffset := 4 }, { name := "Xcount", type := 255, offset := 2, embedded := false, tag := "", pkgPath := "", byteOffset := 6 }, { name := "Moff", type := 233, offset := 3, embedded := false, tag := "", pkgPath := "", byteOffset := 8 }, { name := "_", type := 233, offset := 4, embedded := false, tag := "", pkgPath := "internal/abi", byteOffset := 12 }], 5, 16, Go.Value.agg #[Go.Value.int Go.IntKind.i32 0, Go.Value.int Go.IntKind.u16 0, Go.Value.int Go.IntKind.u16 0, Go.Value.int Go.IntKind.u32 0, Go.Value.int Go.IntKind.u32 0], [(0, 1, false), (1, 1, false), (2, 1, false), (3, 1, false), (4, 1, false)], none⟩
theorem q0j : TIok Tryz.prog 257 q60 := ⟨Tryz.underlying257, by kernel_rfl, rfl, rfl, by rintro fields ⟨⟩; kernel_rfl, (fun _ h => nomatch h)⟩
def q61 : TI := ⟨Go.TypeDesc.slice 261, 1, 24, Go.Value.slice none 0 0, [], none⟩
theorem q0k : TIok Tryz.prog 258 q61 := ⟨Tryz.underlying258, by kernel_rfl, rfl, rfl, (fun _ h => nomatch h), (fun _ h => nomatch h)⟩
def q62 : TI := ⟨Go.TypeDesc.int Go.IntKind.i32, 1, 4, Go.Value.int Go.IntKind.i32 0, [], none⟩
theorem q0l : TIok Tryz.prog 259 q62 := ⟨Tryz.underlying259, by kernel_rfl, rfl, rfl, (fun _ h => nomatch h), (fun _ h => nomatch h)⟩
def q63 : TI := ⟨Go.TypeDesc.struct #[{ name := "Name", type := 238, offset := 0, embedded := false, tag := "", pkgPath := "", byteOffset := 0 }, { name := "Mtyp", type := 239, offset := 1, embedded := false, tag := "", pkgPath := "", byteOffset := 4 }, { name := "Ifn", type := 259, offset := 2, embedded := false, tag := "", pkgPath := "", byteOffset := 8 }, { name := "Tfn", type := 259, offset := 3, embedded := false, tag := "", pkgPath := "", byteOffset := 12 }], 4, 16, Go.Value.agg #[Go.Value.int Go.IntKind.i32 0, Go.Value.int Go.IntKind.i32 0, Go.Value.int Go.IntKind.i32 0, Go.Value.int Go.IntKind.i32 0], [(0, 1, false), (1, 1, false), (2, 1, false), (3, 1, false)], none⟩
theorem q0m : TIok Tryz.prog 260 q63 := ⟨Tryz.underlying260, by kernel_rfl, rfl, rfl, by rintro fields ⟨⟩; kernel_rfl, (fun _ h => nomatch h)⟩
def q64 : TI := ⟨Go.TypeDesc.struct #[{ name := "Name", type := 238, offset := 0, embedded := false, tag := "", pkgPath := "", byteOffset := 0 }, { name := "Mtyp", type := 239, offset := 1, embedded := false, tag := "", pkgPath := "", byteOffset := 4 }, { name := "Ifn", type := 259, offset := 2, embedded := false, tag := "", pkgPath := "", byteOffset := 8 }, { name := "Tfn", type := 259, offset := 3, embedded := false, tag := "", pkgPath := "", byteOffset := 12 }], 4, 16, Go.Value.agg #[Go.Value.int Go.IntKind.i32 0, Go.Value.int Go.IntKind.i32 0, Go.Value.int Go.IntKind.i32 0, Go.Value.int Go.IntKind.i32 0], [(0, 1, false), (1, 1, false), (2, 1, false), (3, 1, false)], none⟩
theorem q0o : TIok Tryz.prog 261 q64 := ⟨Tryz.underlying261, by kernel_rfl, rfl, rfl, by rintro fields ⟨⟩; kernel_rfl, (fun _ h => nomatch h)⟩
def tt : TT := [(2, ti2), (3, ti3), (4, ti4), (5, ti5), (6, ti6), (7, ti7), (8, ti8), (9, ti9), (10, ti10), (11, ti11), (12, ti12), (13, ti13), (14, ti14), (15, ti15), (16, ti16), (17, ti17), (18, ti18), (19, ti19), (21, ti21), (22, ti22), (24, ti24), (25, ti25), (26, ti26), (27, ti27), (28, ti28), (29, ti29), (30, ti30), (31, ti31), (32, ti32), (33, ti33), (34, ti34), (35, ti35), (36, ti36), (37, ti37), (38, ti38), (41, ti41), (42, ti42), (45, ti45), (46, ti46), (47, ti47), (48, ti48), (60, ti60), (61, ti61), (62, ti62), (63, ti63), (64, ti64), (65, ti65), (66, ti66), (67, ti67), (68, ti68), (69, ti69), (70, ti70), (71, ti71), (88, ti88), (113, q5v), (114, q5w), (119, q5x), (125, q5y), (126, q50), (137, q51), (138, q52), (146, q53), (191, q54), (195, q55), (200, q56), (204, q57), (205, q58), (206, q59), (213, q6a), (216, q6b), (220, q6c), (221, q6d), (222, q6e), (223, q6f), (225, q6g), (227, q6h), (228, q6i), (229, q6j), (230, q6k), (231, q6l), (233, q6m), (234, q6n), (235, q6o), (237, q6p), (238, q6q), (239, q6r), (248, q6s), (249, q6t), (250, q6u), (251, q6v), (253, q6w), (255, q6x), (256, q6y), (257, q60), (258, q61), (259, q62), (260, q63), (261, q64)]
theorem qf : TTok Tryz.prog tt := TTok.cons q7y (TTok.cons q7z (TTok.cons q70 (TTok.cons q71 (TTok.cons q72 (TTok.cons q73 (TTok.cons q74 (TTok.cons q75 (TTok.cons q25 (TTok.cons q26 (TTok.cons q27 (TTok.cons q28 (TTok.cons q29 (TTok.cons q3a (TTok.cons q3b (TTok.cons q3c (TTok.cons q3d (TTok.cons q3e (TTok.cons q3f (TTok.cons q3g (TTok.cons q3h (TTok.cons q3i (TTok.cons q3j (TTok.cons q3k (TTok.cons q3l (TTok.cons q3m (TTok.cons q3n (TTok.cons q3o (TTok.cons q3p (TTok.cons q3q (TTok.cons q3r (TTok.cons q3s (TTok.cons q3t (TTok.cons q3u (TTok.cons q3v (TTok.cons q3w (TTok.cons q3x (TTok.cons q3y (TTok.cons q31 (TTok.cons q33 (TTok.cons q34 (TTok.cons q36 (TTok.cons q38 (TTok.cons q39 (TTok.cons q4a (TTok.cons q4b (TTok.cons q4c (TTok.cons q4d (TTok.cons q4e (TTok.cons q4f (TTok.cons q4g (TTok.cons q4h (TTok.cons q4i (TTok.cons q4j (TTok.cons qzg (TTok.cons qzh (TTok.cons qzi (TTok.cons qzj (TTok.cons qzk (TTok.cons qzl (TTok.cons qzm (TTok.cons qzn (TTok.cons qzo (TTok.cons qzp (TTok.cons qzq (TTok.cons qzr (TTok.cons qzs (TTok.cons qzt (TTok.cons qzu (TTok.cons qzv (TTok.cons qzw (TTok.cons qzx (TTok.cons qzy (TTok.cons qzz (TTok.cons qz0 (TTok.cons qz1 (TTok.cons qz2 (TTok.cons qz3 (TTok.cons qz4 (TTok.cons qz5 (TTok.cons qz6 (TTok.cons qz7 (TTok.cons qz8 (TTok.cons qz9 (TTok.cons q0a (TTok.cons q0b (TTok.cons q0c (TTok.cons q0d (TTok.cons q0e (TTok.cons q0f (TTok.cons q0g (TTok.cons q0h (TTok.cons q0i (TTok.cons q0j (TTok.cons q0k (TTok.cons q0l (TTok.cons q0m (TTok.cons q0o (TTok.nil _))))))))))))))))))))))))))))))))))))))))))))))))))))))))))))))))))))))))))))))))))))))))))))))))))
end Eng
end Go.Proofs.YtfiofmaknndpcaaGreatDoor
namespace Go.Proofs.YtfiofmaknndpcaaGreatDoor
open Go.RowKit
namespace Tr
structure GEntry where
 Mode : Int
 Frame : Int
structure GFrames where
 Cells : List (List Int)
 Used : List Bool
structure GPlan where
 Keep : Int
 Move : Int
 Cells : List Int
structure GJob where
 Plan : GPlan
 Phase : Int
 Next : Int
structure GTable where
 Entries : List GEntry
structure GMachine where
 Frames : GFrames
 Table : GTable
structure GKernel where
 Machine : GMachine
 Calls : Int
 Refuse : List Int
structure GWriter where
 Addr : Int
 Value : Int
 Done : Bool
 Waits : Int
end Tr
end Go.Proofs.YtfiofmaknndpcaaGreatDoor
namespace Go.Proofs.YtfiofmaknndpcaaGreatDoor
open Go.RowKit
namespace Tr
def xe (x : GEntry) : D := (eI x.Mode).app (eI x.Frame)
def xw (x : List Int) : D := rowD 3 1 eI x
def qau (x : GWriter) : D := (eI x.Addr).app ((eI x.Value).app ((eB x.Done).app (eI x.Waits)))
end Tr
end Go.Proofs.YtfiofmaknndpcaaGreatDoor

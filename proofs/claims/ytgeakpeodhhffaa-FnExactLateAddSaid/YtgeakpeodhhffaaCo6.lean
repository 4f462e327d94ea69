/- A symbolic run (Co6). No program. -/
import Derived.Conc.Neutral
import Derived.Conc.Listed
import Derived.Laws.Sem
import GoSem.Dispatch
import Derived.Conc.CompanyDraw
import Derived.Conc.Own3
import Derived.Conc.Own5
import Derived.Deep.LoopGhost
import Derived.Scope
import Derived.Orders
import Derived.Conc.Fork
namespace Go.Proofs.Ytgeakpeodhhffaa
open Go Go.Conc
set_option linter.unusedVariables false
set_option linter.unusedSimpArgs false
namespace Co
/-- it writes in the blocks Bk alone, and says nothing of the library's words -/
def Tame {α : Type} (P : Program) (Bk : Nat → Prop) : Sem α → Prop
  | .pure _ => True
  | .halt _ => True
  | .load _ _ k => ∀ v, Tame P Bk (k v)
  | .store _ a _ k => Bk a.block ∧ Tame P Bk k
  | .new _ k => ∀ r, Tame P Bk (k r)
  | .shape _ k => ∀ s, Tame P Bk (k s)
  | .freeze _ _ _ => False
  | .frozen _ k => ∀ b, Tame P Bk (k b)
  | .getObj _ k => ∀ o, Tame P Bk (k o)
  | .setObj _ _ _ => False
  | .choose _ k => ∀ n, Tame P Bk (k n)
  | .sys _ _ => False
  | .program k => Tame P Bk (k P)
  | .mark m k => Neutral m ∧ Tame P Bk k
section
variable {P : Program} {Bk : Nat → Prop}
theorem tb' {α β : Type} {x : Sem α} {f : α → Sem β} (hx : Tame P Bk x) (hf : ∀ a, Tame P Bk (f a)) : Tame P Bk (x.bind f) := by
  induction x with
  | pure a => exact hf a
  | halt h => exact trivial
  | load m a k ih => exact fun v => ih v (hx v)
  | store m a v k ih => exact ⟨hx.1, ih hx.2⟩
  | new o k ih => exact fun r => ih r (hx r)
  | shape r k ih => exact fun s => ih s (hx s)
  | freeze a n k _ => exact hx.elim
  | frozen a k ih => exact fun b => ih b (hx b)
  | getObj r k ih => exact fun o => ih o (hx o)
  | setObj r o k _ => exact hx.elim
  | choose q k ih => exact fun n => ih n (hx n)
  | sys c k _ => exact hx.elim
  | program k ih => exact ih P hx
  | mark m k ih => exact ⟨hx.1, ih hx.2⟩
theorem tb {α β : Type} {x : Sem α} {f : α → Sem β} (hx : Tame P Bk x) (hf : ∀ a, Tame P Bk (f a)) : Tame P Bk (x >>= f) := tb' hx hf
theorem tmap {α β : Type} {x : Sem α} {f : α → β} (hx : Tame P Bk x) : Tame P Bk (f <$> x) := by
  have : f <$> x = x >>= fun a => pure (f a) := (bind_pure_comp f x).symm
  rw [this]
  exact tb hx fun _ => trivial
theorem tpure {α : Type} (a : α) : Tame P Bk (pure a : Sem α) := trivial
theorem thalt {α : Type} (h : Halt) : Tame P Bk (.halt h : Sem α) := trivial
theorem tstuck {α : Type} (s : String) : Tame P Bk (stuck s : Sem α) := trivial
theorem tunsup {α : Type} (u : Unsupported) : Tame P Bk (unsupported u : Sem α) := trivial
theorem tgoPanic {α : Type} (v : Value) : Tame P Bk (goPanic v : Sem α) := trivial
theorem tprogram : Tame P Bk program := trivial
theorem tload (a : Addr) (m : Mode) : Tame P Bk (load a m) := fun _ => trivial
theorem tshape (r : Nat) : Tame P Bk (shape r) := fun _ => trivial
theorem tfrozen (a : Addr) : Tame P Bk (frozen a) := fun _ => trivial
theorem tgetObj (r : Nat) : Tame P Bk (getObj r) := fun _ => trivial
theorem tnewObj (o : Obj) : Tame P Bk (newObj o) := fun _ => trivial
theorem tchoose (q : Question) : Tame P Bk (choose q) := fun _ => trivial
theorem tmark : Tame P Bk (mark .noRoom) := ⟨rfl, trivial⟩
theorem tstore {a : Addr} (h : Bk a.block) (v : Value) (m : Mode) : Tame P Bk (store a v m) := ⟨h, trivial⟩
/-- a list's walk -/
theorem tforL {α β : Type} (l : List α) : ∀ (b : β) (f : α → β → Sem (ForInStep β)), (∀ a b, Tame P Bk (f a b)) → Tame P Bk (forIn l b f) := by
  induction l with
  | nil => intro b f _; exact trivial
  | cons a l ih =>
    intro b f h
    rw [List.forIn_cons]
    refine tb (h a b) (fun x => ?_)
    cases x with
    | done b => exact trivial
    | yield b => exact ih b f h
theorem tforA {α β : Type} (l : Array α) (b : β) (f : α → β → Sem (ForInStep β)) (h : ∀ a b, Tame P Bk (f a b)) : Tame P Bk (forIn l b f) := by
  rw [← Array.forIn_toList]; exact tforL _ _ _ h
theorem tforR {β : Type} (r : Std.Legacy.Range) (b : β) (f : Nat → β → Sem (ForInStep β)) (h : ∀ a b, Tame P Bk (f a b)) : Tame P Bk (forIn r b f) := by
  rw [Std.Legacy.Range.forIn_eq_forIn_range']; exact tforL _ _ _ h
theorem tmapML {α β : Type} {f : α → Sem β} (h : ∀ a, Tame P Bk (f a)) : ∀ l : List α, Tame P Bk (l.mapM f)
  | [] => by rw [List.mapM_nil]; exact trivial
  | a :: l => by rw [List.mapM_cons]; exact tb (h a) fun _ => tb (tmapML h l) fun _ => trivial
theorem tmapM {α β : Type} {f : α → Sem β} (h : ∀ a, Tame P Bk (f a)) (l : Array α) : Tame P Bk (l.mapM f) := by
  rw [Array.mapM_eq_mapM_toList]
  exact tmap (tmapML h _)
theorem ttypeInfo (t : TypeId) : Tame P Bk (typeInfo t) := by
  unfold typeInfo; refine tb tprogram fun p => ?_; split <;> trivial
theorem tunderlying (t : TypeId) : Tame P Bk (underlying t) := by
  unfold underlying; refine tb tprogram fun p => ?_; split <;> trivial
theorem tsizeOf (t : TypeId) : Tame P Bk (sizeOf t) := tb (ttypeInfo t) fun _ => trivial
theorem tzeroValue (t : TypeId) : Tame P Bk (zeroValue t) := by
  unfold zeroValue; refine tb (ttypeInfo t) fun p => ?_; split <;> trivial
theorem tisAgg (t : TypeId) : Tame P Bk (isAgg t) := by
  unfold isAgg; refine tb (tunderlying t) fun p => ?_; split <;> trivial
theorem tloadCellsFrom (a : Addr) : ∀ (n i : Nat) (acc : Array Value), Tame P Bk (loadCellsFrom a i n acc)
  | 0, _, _ => trivial
  | n + 1, i, acc => by unfold loadCellsFrom; exact tb (tload _ _) fun v => tloadCellsFrom a n _ _
theorem tloadCells (a : Addr) (n : Nat) : Tame P Bk (loadCells a n) := tloadCellsFrom a n 0 #[]
theorem tstoreCells {a : Addr} (h : Bk a.block) : ∀ (vs : List Value) (i : Nat), Tame P Bk (storeCells a vs i)
  | [], _ => trivial
  | v :: vs, i => by
    unfold storeCells
    refine tb (tstore (by rw [show (a.add i).block = a.block by unfold Addr.add; split <;> rfl]; exact h) v _) fun _ => tstoreCells h vs _
theorem tloadVar (t : TypeId) (a : Addr) : Tame P Bk (loadVar t a) := by
  unfold loadVar
  refine tb (tisAgg t) fun b => ?_
  split
  · exact tb (tsizeOf t) fun _ => tb (tloadCells _ _) fun _ => trivial
  · exact tload _ _
theorem tstoreVar {a : Addr} (h : Bk a.block) (t : TypeId) (v : Value) : Tame P Bk (storeVar t a v) := by
  unfold storeVar
  refine tb (tsizeOf t) fun n => ?_
  split
  · exact tb (tstuck _) fun _ => tstoreCells h _ _
  · exact tstoreCells h _ _
theorem tnewRow (e : TypeId) (c : Array Value) : Tame P Bk (newRow e c) := tb (tnewObj _) fun _ => trivial
theorem tnewVar (t : TypeId) (v : Value) : Tame P Bk (newVar t v) := tnewRow _ _
theorem telemOf (t : TypeId) : Tame P Bk (elemOf t) := by
  unfold elemOf; refine tb (tunderlying t) fun p => ?_; split <;> trivial
theorem tpart (t : TypeId) (cs : Array Value) (off : Nat) : Tame P Bk (part t cs off) := by
  unfold part
  refine tb (tisAgg t) fun b => ?_
  split
  · exact tb (tsizeOf t) fun _ => trivial
  · split <;> trivial
theorem trtPanic {α : Type} (e : RuntimeError) : Tame P Bk (runtimePanic e : Sem α) := by
  unfold runtimePanic
  refine tb tprogram fun p => ?_
  dsimp only
  split <;> first | exact trivial | exact tb (telemOf _) fun _ => tb (tnewVar _ _) fun _ => trivial
theorem tboundsPanic {α : Type} (k : IntKind) (x y : Int) (c : BoundsCode) : Tame P Bk (boundsPanic k x y c : Sem α) := by
  unfold boundsPanic
  dsimp only
  split
  · exact tb (tmap (tchoose _)) fun _ => trtPanic _
  · exact tb (tpure _) fun _ => trtPanic _
theorem tasIntOf (v : Value) : Tame P Bk (asIntOf v) := by unfold asIntOf; split <;> trivial
theorem tasInt (v : Value) : Tame P Bk (asInt v) := tb (tasIntOf v) fun _ => trivial
theorem tasBool (v : Value) : Tame P Bk (asBool v) := by unfold asBool; split <;> trivial
theorem tasAgg (v : Value) : Tame P Bk (asAgg v) := by unfold asAgg; split <;> trivial
theorem tasAddr (v : Value) : Tame P Bk (asAddr v) := by unfold asAddr; split <;> first | trivial | exact trtPanic _
theorem tsureAddr (v : Value) : Tame P Bk (Instr.sureAddr v) := by unfold Instr.sureAddr; split <;> trivial
theorem taskRoom (n : Nat) : Tame P Bk (askRoom n) := by unfold askRoom; split <;> first | exact tmark | trivial
theorem tviewAt (r : Nat) : Tame P Bk (viewAt r) := by
  unfold viewAt
  refine tb (tshape r) fun s => ?_
  split
  · exact trivial
  · refine tb (tgetObj r) fun o => ?_; split <;> trivial
theorem tnumberAt (r : Nat) : Tame P Bk (numberAt r) := by
  unfold numberAt
  refine tb (tshape r) fun s => ?_
  split
  · exact trivial
  · refine tb (tgetObj r) fun o => ?_; split <;> trivial
theorem tnoView (a : Addr) : Tame P Bk (noView a) := by
  unfold noView; refine tb (tviewAt _) fun s => ?_; split <;> trivial
theorem tbehind (a : Addr) : Tame P Bk (behindNumber a) := tb (tnumberAt _) fun _ => trivial
theorem tbyteOf (a : Addr) : Tame P Bk (byteOf a) := by
  unfold byteOf
  split
  · exact trivial
  · refine tb tprogram fun p => tb (tnoView _) fun _ => tb (tshape _) fun s => ?_
    split
    · dsimp only
      split
      · exact trivial
      · split <;> trivial
    · exact trivial
theorem tpartAt (a : Addr) (c b : Nat) : Tame P Bk (partAt a c b) := tb (tbyteOf _) fun _ => tb (tbyteOf _) fun _ => trivial
theorem tfieldPlace (a : Addr) (f : Field) : Tame P Bk (fieldPlace a f) := by
  unfold fieldPlace
  refine tb (tsizeOf _) fun n => ?_
  split
  · exact tpartAt _ _ _
  · exact trivial
theorem tstringish (a : Addr) : Tame P Bk (stringish a) := by
  unfold stringish
  refine tb (tfrozen _) fun b => ?_
  split
  · exact trivial
  · refine tb (tshape _) fun s => ?_; split <;> first | exact tfrozen _ | trivial
theorem tmayBeOne (a b : Addr) : Tame P Bk (mayBeOne a b) := by
  unfold mayBeOne
  refine tb (tstringish _) fun _ => tb (tstringish _) fun _ => ?_
  dsimp only
  exact tb (tb (tshape _) fun _ => trivial) fun _ => tb (tb (tshape _) fun _ => trivial) fun _ => trivial
theorem tsameAddr (a b : Addr) : Tame P Bk (sameAddr a b) := by
  unfold sameAddr
  split
  · exact trivial
  · refine tb (tfrozen _) fun b1 => tb (tfrozen _) fun b2 => ?_
    split
    · refine tb (tunsup _) fun _ => ?_
      refine tb (tnoView _) fun _ => tb (tnoView _) fun _ => tb (tmayBeOne _ _) fun m => ?_
      split
      · exact tb (tchoose _) fun _ => trivial
      · exact trivial
    · refine tb (tnoView _) fun _ => tb (tnoView _) fun _ => tb (tmayBeOne _ _) fun m => ?_
      split
      · exact tb (tchoose _) fun _ => trivial
      · exact trivial
theorem tsamePointer (a b : Option Addr) : Tame P Bk (samePointer a b) := by
  unfold samePointer; split <;> first | exact tsameAddr _ _ | trivial
end
end Co
end Go.Proofs.Ytgeakpeodhhffaa
namespace Go.Proofs.Ytgeakpeodhhffaa
open Go Go.Conc
set_option linter.unusedVariables false
set_option linter.unusedSimpArgs false
namespace Co
section
variable {P : Program} {Bk : Nat → Prop}
theorem ttypeStr (t : TypeId) : Tame P Bk (typeStr t) := by
  unfold typeStr
  repeat' (first | exact trivial | with_reducible exact tprogram | with_reducible exact tload _ _ | with_reducible exact tshape _ | with_reducible exact tfrozen _ | with_reducible exact tgetObj _ | with_reducible exact tnewObj _ | with_reducible exact tchoose _ | with_reducible exact tmark | with_reducible exact ttypeInfo _ | with_reducible exact tunderlying _ | with_reducible exact tsizeOf _ | with_reducible exact tzeroValue _ | with_reducible exact tisAgg _ | with_reducible exact tloadCells _ _ | with_reducible exact tloadVar _ _ | with_reducible exact tnewRow _ _ | with_reducible exact tnewVar _ _ | with_reducible exact telemOf _ | with_reducible exact tpart _ _ _ | with_reducible exact trtPanic _ | with_reducible exact tboundsPanic _ _ _ _ | with_reducible exact tasIntOf _ | with_reducible exact tasInt _ | with_reducible exact tasBool _ | with_reducible exact tasAgg _ | with_reducible exact tasAddr _ | with_reducible exact tsureAddr _ | with_reducible exact taskRoom _ | with_reducible exact tnoView _ | with_reducible exact tbehind _ | with_reducible exact tbyteOf _ | with_reducible exact tpartAt _ _ _ | with_reducible exact tfieldPlace _ _ | with_reducible exact tsameAddr _ _ | with_reducible exact tsamePointer _ _ | refine tb ?_ (fun _ => ?_) | refine tmap ?_ | refine tforA _ _ _ (fun _ _ => ?_) | refine tforR _ _ _ (fun _ _ => ?_) | refine tmapM (fun _ => ?_) _ | split | dsimp only)
theorem tequalIn : ∀ (d : Nat) (t : TypeId) (x y : Value), Tame P Bk (Op.equalIn d t x y)
  | 0, _, _, _ => trivial
  | d + 1, t, x, y => by
    unfold Op.equalIn
    repeat' (first | exact trivial | with_reducible exact tequalIn _ _ _ _ | with_reducible exact ttypeStr _ | with_reducible exact tprogram | with_reducible exact tload _ _ | with_reducible exact tshape _ | with_reducible exact tfrozen _ | with_reducible exact tgetObj _ | with_reducible exact tnewObj _ | with_reducible exact tchoose _ | with_reducible exact tmark | with_reducible exact ttypeInfo _ | with_reducible exact tunderlying _ | with_reducible exact tsizeOf _ | with_reducible exact tzeroValue _ | with_reducible exact tisAgg _ | with_reducible exact tloadCells _ _ | with_reducible exact tloadVar _ _ | with_reducible exact tnewRow _ _ | with_reducible exact tnewVar _ _ | with_reducible exact telemOf _ | with_reducible exact tpart _ _ _ | with_reducible exact trtPanic _ | with_reducible exact tboundsPanic _ _ _ _ | with_reducible exact tasIntOf _ | with_reducible exact tasInt _ | with_reducible exact tasBool _ | with_reducible exact tasAgg _ | with_reducible exact tasAddr _ | with_reducible exact tsureAddr _ | with_reducible exact taskRoom _ | with_reducible exact tnoView _ | with_reducible exact tbehind _ | with_reducible exact tbyteOf _ | with_reducible exact tpartAt _ _ _ | with_reducible exact tfieldPlace _ _ | with_reducible exact tsameAddr _ _ | with_reducible exact tsamePointer _ _ | refine tb ?_ (fun _ => ?_) | refine tmap ?_ | refine tforA _ _ _ (fun _ _ => ?_) | refine tforR _ _ _ (fun _ _ => ?_) | refine tmapM (fun _ => ?_) _ | split | dsimp only)
theorem teqGuardIn : ∀ (d : Nat) (t : TypeId) (x y : Value), Tame P Bk (Op.eqGuardIn d t x y)
  | 0, _, _, _ => trivial
  | d + 1, t, x, y => by
    unfold Op.eqGuardIn
    repeat' (first | exact trivial | with_reducible exact teqGuardIn _ _ _ _ | with_reducible exact tprogram | with_reducible exact tload _ _ | with_reducible exact tshape _ | with_reducible exact tfrozen _ | with_reducible exact tgetObj _ | with_reducible exact tnewObj _ | with_reducible exact tchoose _ | with_reducible exact tmark | with_reducible exact ttypeInfo _ | with_reducible exact tunderlying _ | with_reducible exact tsizeOf _ | with_reducible exact tzeroValue _ | with_reducible exact tisAgg _ | with_reducible exact tloadCells _ _ | with_reducible exact tloadVar _ _ | with_reducible exact tnewRow _ _ | with_reducible exact tnewVar _ _ | with_reducible exact telemOf _ | with_reducible exact tpart _ _ _ | with_reducible exact trtPanic _ | with_reducible exact tboundsPanic _ _ _ _ | with_reducible exact tasIntOf _ | with_reducible exact tasInt _ | with_reducible exact tasBool _ | with_reducible exact tasAgg _ | with_reducible exact tasAddr _ | with_reducible exact tsureAddr _ | with_reducible exact taskRoom _ | with_reducible exact tnoView _ | with_reducible exact tbehind _ | with_reducible exact tbyteOf _ | with_reducible exact tpartAt _ _ _ | with_reducible exact tfieldPlace _ _ | with_reducible exact tsameAddr _ _ | with_reducible exact tsamePointer _ _ | refine tb ?_ (fun _ => ?_) | refine tmap ?_ | refine tforA _ _ _ (fun _ _ => ?_) | refine tforR _ _ _ (fun _ _ => ?_) | refine tmapM (fun _ => ?_) _ | split | dsimp only)
theorem teqGuard (op : BinOp) (t : TypeId) (x y : Operand) (a b : Value) : Tame P Bk (eqGuard op t x y a b) := by
  unfold eqGuard
  repeat' (first | exact trivial | with_reducible exact teqGuardIn _ _ _ _ | with_reducible exact tprogram | with_reducible exact tload _ _ | with_reducible exact tshape _ | with_reducible exact tfrozen _ | with_reducible exact tgetObj _ | with_reducible exact tnewObj _ | with_reducible exact tchoose _ | with_reducible exact tmark | with_reducible exact ttypeInfo _ | with_reducible exact tunderlying _ | with_reducible exact tsizeOf _ | with_reducible exact tzeroValue _ | with_reducible exact tisAgg _ | with_reducible exact tloadCells _ _ | with_reducible exact tloadVar _ _ | with_reducible exact tnewRow _ _ | with_reducible exact tnewVar _ _ | with_reducible exact telemOf _ | with_reducible exact tpart _ _ _ | with_reducible exact trtPanic _ | with_reducible exact tboundsPanic _ _ _ _ | with_reducible exact tasIntOf _ | with_reducible exact tasInt _ | with_reducible exact tasBool _ | with_reducible exact tasAgg _ | with_reducible exact tasAddr _ | with_reducible exact tsureAddr _ | with_reducible exact taskRoom _ | with_reducible exact tnoView _ | with_reducible exact tbehind _ | with_reducible exact tbyteOf _ | with_reducible exact tpartAt _ _ _ | with_reducible exact tfieldPlace _ _ | with_reducible exact tsameAddr _ _ | with_reducible exact tsamePointer _ _ | refine tb ?_ (fun _ => ?_) | refine tmap ?_ | refine tforA _ _ _ (fun _ _ => ?_) | refine tforR _ _ _ (fun _ _ => ?_) | refine tmapM (fun _ => ?_) _ | split | dsimp only)
theorem tintArith (op : BinOp) (k : IntKind) (x y : Int) : Tame P Bk (Op.intArith op k x y) := by
  unfold Op.intArith
  repeat' (first | exact trivial | with_reducible exact tprogram | with_reducible exact tload _ _ | with_reducible exact tshape _ | with_reducible exact tfrozen _ | with_reducible exact tgetObj _ | with_reducible exact tnewObj _ | with_reducible exact tchoose _ | with_reducible exact tmark | with_reducible exact ttypeInfo _ | with_reducible exact tunderlying _ | with_reducible exact tsizeOf _ | with_reducible exact tzeroValue _ | with_reducible exact tisAgg _ | with_reducible exact tloadCells _ _ | with_reducible exact tloadVar _ _ | with_reducible exact tnewRow _ _ | with_reducible exact tnewVar _ _ | with_reducible exact telemOf _ | with_reducible exact tpart _ _ _ | with_reducible exact trtPanic _ | with_reducible exact tboundsPanic _ _ _ _ | with_reducible exact tasIntOf _ | with_reducible exact tasInt _ | with_reducible exact tasBool _ | with_reducible exact tasAgg _ | with_reducible exact tasAddr _ | with_reducible exact tsureAddr _ | with_reducible exact taskRoom _ | with_reducible exact tnoView _ | with_reducible exact tbehind _ | with_reducible exact tbyteOf _ | with_reducible exact tpartAt _ _ _ | with_reducible exact tfieldPlace _ _ | with_reducible exact tsameAddr _ _ | with_reducible exact tsamePointer _ _ | refine tb ?_ (fun _ => ?_) | refine tmap ?_ | refine tforA _ _ _ (fun _ _ => ?_) | refine tforR _ _ _ (fun _ _ => ?_) | refine tmapM (fun _ => ?_) _ | split | dsimp only)
theorem tintDiv (op : BinOp) (k : IntKind) (x y : Int) : Tame P Bk (Op.intDiv op k x y) := by
  unfold Op.intDiv
  repeat' (first | exact trivial | with_reducible exact tprogram | with_reducible exact tload _ _ | with_reducible exact tshape _ | with_reducible exact tfrozen _ | with_reducible exact tgetObj _ | with_reducible exact tnewObj _ | with_reducible exact tchoose _ | with_reducible exact tmark | with_reducible exact ttypeInfo _ | with_reducible exact tunderlying _ | with_reducible exact tsizeOf _ | with_reducible exact tzeroValue _ | with_reducible exact tisAgg _ | with_reducible exact tloadCells _ _ | with_reducible exact tloadVar _ _ | with_reducible exact tnewRow _ _ | with_reducible exact tnewVar _ _ | with_reducible exact telemOf _ | with_reducible exact tpart _ _ _ | with_reducible exact trtPanic _ | with_reducible exact tboundsPanic _ _ _ _ | with_reducible exact tasIntOf _ | with_reducible exact tasInt _ | with_reducible exact tasBool _ | with_reducible exact tasAgg _ | with_reducible exact tasAddr _ | with_reducible exact tsureAddr _ | with_reducible exact taskRoom _ | with_reducible exact tnoView _ | with_reducible exact tbehind _ | with_reducible exact tbyteOf _ | with_reducible exact tpartAt _ _ _ | with_reducible exact tfieldPlace _ _ | with_reducible exact tsameAddr _ _ | with_reducible exact tsamePointer _ _ | refine tb ?_ (fun _ => ?_) | refine tmap ?_ | refine tforA _ _ _ (fun _ _ => ?_) | refine tforR _ _ _ (fun _ _ => ?_) | refine tmapM (fun _ => ?_) _ | split | dsimp only)
theorem tintBits (op : BinOp) (k : IntKind) (x y : Int) : Tame P Bk (Op.intBits op k x y) := by
  unfold Op.intBits
  repeat' (first | exact trivial | with_reducible exact tprogram | with_reducible exact tload _ _ | with_reducible exact tshape _ | with_reducible exact tfrozen _ | with_reducible exact tgetObj _ | with_reducible exact tnewObj _ | with_reducible exact tchoose _ | with_reducible exact tmark | with_reducible exact ttypeInfo _ | with_reducible exact tunderlying _ | with_reducible exact tsizeOf _ | with_reducible exact tzeroValue _ | with_reducible exact tisAgg _ | with_reducible exact tloadCells _ _ | with_reducible exact tloadVar _ _ | with_reducible exact tnewRow _ _ | with_reducible exact tnewVar _ _ | with_reducible exact telemOf _ | with_reducible exact tpart _ _ _ | with_reducible exact trtPanic _ | with_reducible exact tboundsPanic _ _ _ _ | with_reducible exact tasIntOf _ | with_reducible exact tasInt _ | with_reducible exact tasBool _ | with_reducible exact tasAgg _ | with_reducible exact tasAddr _ | with_reducible exact tsureAddr _ | with_reducible exact taskRoom _ | with_reducible exact tnoView _ | with_reducible exact tbehind _ | with_reducible exact tbyteOf _ | with_reducible exact tpartAt _ _ _ | with_reducible exact tfieldPlace _ _ | with_reducible exact tsameAddr _ _ | with_reducible exact tsamePointer _ _ | refine tb ?_ (fun _ => ?_) | refine tmap ?_ | refine tforA _ _ _ (fun _ _ => ?_) | refine tforR _ _ _ (fun _ _ => ?_) | refine tmapM (fun _ => ?_) _ | split | dsimp only)
theorem tintCmp (op : BinOp) (x y : Int) : Tame P Bk (Op.intCmp op x y) := by
  unfold Op.intCmp
  repeat' (first | exact trivial | with_reducible exact tprogram | with_reducible exact tload _ _ | with_reducible exact tshape _ | with_reducible exact tfrozen _ | with_reducible exact tgetObj _ | with_reducible exact tnewObj _ | with_reducible exact tchoose _ | with_reducible exact tmark | with_reducible exact ttypeInfo _ | with_reducible exact tunderlying _ | with_reducible exact tsizeOf _ | with_reducible exact tzeroValue _ | with_reducible exact tisAgg _ | with_reducible exact tloadCells _ _ | with_reducible exact tloadVar _ _ | with_reducible exact tnewRow _ _ | with_reducible exact tnewVar _ _ | with_reducible exact telemOf _ | with_reducible exact tpart _ _ _ | with_reducible exact trtPanic _ | with_reducible exact tboundsPanic _ _ _ _ | with_reducible exact tasIntOf _ | with_reducible exact tasInt _ | with_reducible exact tasBool _ | with_reducible exact tasAgg _ | with_reducible exact tasAddr _ | with_reducible exact tsureAddr _ | with_reducible exact taskRoom _ | with_reducible exact tnoView _ | with_reducible exact tbehind _ | with_reducible exact tbyteOf _ | with_reducible exact tpartAt _ _ _ | with_reducible exact tfieldPlace _ _ | with_reducible exact tsameAddr _ _ | with_reducible exact tsamePointer _ _ | refine tb ?_ (fun _ => ?_) | refine tmap ?_ | refine tforA _ _ _ (fun _ _ => ?_) | refine tforR _ _ _ (fun _ _ => ?_) | refine tmapM (fun _ => ?_) _ | split | dsimp only)
theorem tshift (op : BinOp) (k : IntKind) (x : Int) (j : IntKind) (y : Int) : Tame P Bk (Op.shift op k x j y) := by
  unfold Op.shift
  repeat' (first | exact trivial | with_reducible exact tprogram | with_reducible exact tload _ _ | with_reducible exact tshape _ | with_reducible exact tfrozen _ | with_reducible exact tgetObj _ | with_reducible exact tnewObj _ | with_reducible exact tchoose _ | with_reducible exact tmark | with_reducible exact ttypeInfo _ | with_reducible exact tunderlying _ | with_reducible exact tsizeOf _ | with_reducible exact tzeroValue _ | with_reducible exact tisAgg _ | with_reducible exact tloadCells _ _ | with_reducible exact tloadVar _ _ | with_reducible exact tnewRow _ _ | with_reducible exact tnewVar _ _ | with_reducible exact telemOf _ | with_reducible exact tpart _ _ _ | with_reducible exact trtPanic _ | with_reducible exact tboundsPanic _ _ _ _ | with_reducible exact tasIntOf _ | with_reducible exact tasInt _ | with_reducible exact tasBool _ | with_reducible exact tasAgg _ | with_reducible exact tasAddr _ | with_reducible exact tsureAddr _ | with_reducible exact taskRoom _ | with_reducible exact tnoView _ | with_reducible exact tbehind _ | with_reducible exact tbyteOf _ | with_reducible exact tpartAt _ _ _ | with_reducible exact tfieldPlace _ _ | with_reducible exact tsameAddr _ _ | with_reducible exact tsamePointer _ _ | refine tb ?_ (fun _ => ?_) | refine tmap ?_ | refine tforA _ _ _ (fun _ _ => ?_) | refine tforR _ _ _ (fun _ _ => ?_) | refine tmapM (fun _ => ?_) _ | split | dsimp only)
theorem tstringOp (op : BinOp) (x y : ByteArray) : Tame P Bk (Op.stringOp op x y) := by
  unfold Op.stringOp
  repeat' (first | exact trivial | with_reducible exact tprogram | with_reducible exact tload _ _ | with_reducible exact tshape _ | with_reducible exact tfrozen _ | with_reducible exact tgetObj _ | with_reducible exact tnewObj _ | with_reducible exact tchoose _ | with_reducible exact tmark | with_reducible exact ttypeInfo _ | with_reducible exact tunderlying _ | with_reducible exact tsizeOf _ | with_reducible exact tzeroValue _ | with_reducible exact tisAgg _ | with_reducible exact tloadCells _ _ | with_reducible exact tloadVar _ _ | with_reducible exact tnewRow _ _ | with_reducible exact tnewVar _ _ | with_reducible exact telemOf _ | with_reducible exact tpart _ _ _ | with_reducible exact trtPanic _ | with_reducible exact tboundsPanic _ _ _ _ | with_reducible exact tasIntOf _ | with_reducible exact tasInt _ | with_reducible exact tasBool _ | with_reducible exact tasAgg _ | with_reducible exact tasAddr _ | with_reducible exact tsureAddr _ | with_reducible exact taskRoom _ | with_reducible exact tnoView _ | with_reducible exact tbehind _ | with_reducible exact tbyteOf _ | with_reducible exact tpartAt _ _ _ | with_reducible exact tfieldPlace _ _ | with_reducible exact tsameAddr _ _ | with_reducible exact tsamePointer _ _ | refine tb ?_ (fun _ => ?_) | refine tmap ?_ | refine tforA _ _ _ (fun _ _ => ?_) | refine tforR _ _ _ (fun _ _ => ?_) | refine tmapM (fun _ => ?_) _ | split | dsimp only)
theorem tunary (op : UnOp) (x : Value) : Tame P Bk (Op.unary op x) := by
  unfold Op.unary
  repeat' (first | exact trivial | with_reducible exact tintArith _ _ _ _ | with_reducible exact tintBits _ _ _ _ | with_reducible exact tprogram | with_reducible exact tload _ _ | with_reducible exact tshape _ | with_reducible exact tfrozen _ | with_reducible exact tgetObj _ | with_reducible exact tnewObj _ | with_reducible exact tchoose _ | with_reducible exact tmark | with_reducible exact ttypeInfo _ | with_reducible exact tunderlying _ | with_reducible exact tsizeOf _ | with_reducible exact tzeroValue _ | with_reducible exact tisAgg _ | with_reducible exact tloadCells _ _ | with_reducible exact tloadVar _ _ | with_reducible exact tnewRow _ _ | with_reducible exact tnewVar _ _ | with_reducible exact telemOf _ | with_reducible exact tpart _ _ _ | with_reducible exact trtPanic _ | with_reducible exact tboundsPanic _ _ _ _ | with_reducible exact tasIntOf _ | with_reducible exact tasInt _ | with_reducible exact tasBool _ | with_reducible exact tasAgg _ | with_reducible exact tasAddr _ | with_reducible exact tsureAddr _ | with_reducible exact taskRoom _ | with_reducible exact tnoView _ | with_reducible exact tbehind _ | with_reducible exact tbyteOf _ | with_reducible exact tpartAt _ _ _ | with_reducible exact tfieldPlace _ _ | with_reducible exact tsameAddr _ _ | with_reducible exact tsamePointer _ _ | refine tb ?_ (fun _ => ?_) | refine tmap ?_ | refine tforA _ _ _ (fun _ _ => ?_) | refine tforR _ _ _ (fun _ _ => ?_) | refine tmapM (fun _ => ?_) _ | split | dsimp only)
theorem tfieldAt (s : TypeId) (a : Value) (f : Nat) : Tame P Bk (Instr.fieldAt s a f) := by
  unfold Instr.fieldAt
  repeat' (first | exact trivial | with_reducible exact tprogram | with_reducible exact tload _ _ | with_reducible exact tshape _ | with_reducible exact tfrozen _ | with_reducible exact tgetObj _ | with_reducible exact tnewObj _ | with_reducible exact tchoose _ | with_reducible exact tmark | with_reducible exact ttypeInfo _ | with_reducible exact tunderlying _ | with_reducible exact tsizeOf _ | with_reducible exact tzeroValue _ | with_reducible exact tisAgg _ | with_reducible exact tloadCells _ _ | with_reducible exact tloadVar _ _ | with_reducible exact tnewRow _ _ | with_reducible exact tnewVar _ _ | with_reducible exact telemOf _ | with_reducible exact tpart _ _ _ | with_reducible exact trtPanic _ | with_reducible exact tboundsPanic _ _ _ _ | with_reducible exact tasIntOf _ | with_reducible exact tasInt _ | with_reducible exact tasBool _ | with_reducible exact tasAgg _ | with_reducible exact tasAddr _ | with_reducible exact tsureAddr _ | with_reducible exact taskRoom _ | with_reducible exact tnoView _ | with_reducible exact tbehind _ | with_reducible exact tbyteOf _ | with_reducible exact tpartAt _ _ _ | with_reducible exact tfieldPlace _ _ | with_reducible exact tsameAddr _ _ | with_reducible exact tsamePointer _ _ | refine tb ?_ (fun _ => ?_) | refine tmap ?_ | refine tforA _ _ _ (fun _ _ => ?_) | refine tforR _ _ _ (fun _ _ => ?_) | refine tmapM (fun _ => ?_) _ | split | dsimp only)
theorem tindexAt (s : TypeId) (a f : Value) : Tame P Bk (Instr.indexAt s a f) := by
  unfold Instr.indexAt
  repeat' (first | exact trivial | with_reducible exact tprogram | with_reducible exact tload _ _ | with_reducible exact tshape _ | with_reducible exact tfrozen _ | with_reducible exact tgetObj _ | with_reducible exact tnewObj _ | with_reducible exact tchoose _ | with_reducible exact tmark | with_reducible exact ttypeInfo _ | with_reducible exact tunderlying _ | with_reducible exact tsizeOf _ | with_reducible exact tzeroValue _ | with_reducible exact tisAgg _ | with_reducible exact tloadCells _ _ | with_reducible exact tloadVar _ _ | with_reducible exact tnewRow _ _ | with_reducible exact tnewVar _ _ | with_reducible exact telemOf _ | with_reducible exact tpart _ _ _ | with_reducible exact trtPanic _ | with_reducible exact tboundsPanic _ _ _ _ | with_reducible exact tasIntOf _ | with_reducible exact tasInt _ | with_reducible exact tasBool _ | with_reducible exact tasAgg _ | with_reducible exact tasAddr _ | with_reducible exact tsureAddr _ | with_reducible exact taskRoom _ | with_reducible exact tnoView _ | with_reducible exact tbehind _ | with_reducible exact tbyteOf _ | with_reducible exact tpartAt _ _ _ | with_reducible exact tfieldPlace _ _ | with_reducible exact tsameAddr _ _ | with_reducible exact tsamePointer _ _ | refine tb ?_ (fun _ => ?_) | refine tmap ?_ | refine tforA _ _ _ (fun _ _ => ?_) | refine tforR _ _ _ (fun _ _ => ?_) | refine tmapM (fun _ => ?_) _ | split | dsimp only)
theorem tbound (x : Value) (y : Nat) (c : BoundsCode) : Tame P Bk (Instr.sliceBound x y c) := by
  unfold Instr.sliceBound
  repeat' (first | exact trivial | with_reducible exact tprogram | with_reducible exact tload _ _ | with_reducible exact tshape _ | with_reducible exact tfrozen _ | with_reducible exact tgetObj _ | with_reducible exact tnewObj _ | with_reducible exact tchoose _ | with_reducible exact tmark | with_reducible exact ttypeInfo _ | with_reducible exact tunderlying _ | with_reducible exact tsizeOf _ | with_reducible exact tzeroValue _ | with_reducible exact tisAgg _ | with_reducible exact tloadCells _ _ | with_reducible exact tloadVar _ _ | with_reducible exact tnewRow _ _ | with_reducible exact tnewVar _ _ | with_reducible exact telemOf _ | with_reducible exact tpart _ _ _ | with_reducible exact trtPanic _ | with_reducible exact tboundsPanic _ _ _ _ | with_reducible exact tasIntOf _ | with_reducible exact tasInt _ | with_reducible exact tasBool _ | with_reducible exact tasAgg _ | with_reducible exact tasAddr _ | with_reducible exact tsureAddr _ | with_reducible exact taskRoom _ | with_reducible exact tnoView _ | with_reducible exact tbehind _ | with_reducible exact tbyteOf _ | with_reducible exact tpartAt _ _ _ | with_reducible exact tfieldPlace _ _ | with_reducible exact tsameAddr _ _ | with_reducible exact tsamePointer _ _ | refine tb ?_ (fun _ => ?_) | refine tmap ?_ | refine tforA _ _ _ (fun _ _ => ?_) | refine tforR _ _ _ (fun _ _ => ?_) | refine tmapM (fun _ => ?_) _ | split | dsimp only)
theorem tbounds (b : Bool) (l c : Nat) (x y z : Option Value) : Tame P Bk (Instr.sliceBounds b l c x y z) := by
  unfold Instr.sliceBounds
  repeat' (first | exact trivial | with_reducible exact tbound _ _ _ | with_reducible exact tprogram | with_reducible exact tload _ _ | with_reducible exact tshape _ | with_reducible exact tfrozen _ | with_reducible exact tgetObj _ | with_reducible exact tnewObj _ | with_reducible exact tchoose _ | with_reducible exact tmark | with_reducible exact ttypeInfo _ | with_reducible exact tunderlying _ | with_reducible exact tsizeOf _ | with_reducible exact tzeroValue _ | with_reducible exact tisAgg _ | with_reducible exact tloadCells _ _ | with_reducible exact tloadVar _ _ | with_reducible exact tnewRow _ _ | with_reducible exact tnewVar _ _ | with_reducible exact telemOf _ | with_reducible exact tpart _ _ _ | with_reducible exact trtPanic _ | with_reducible exact tboundsPanic _ _ _ _ | with_reducible exact tasIntOf _ | with_reducible exact tasInt _ | with_reducible exact tasBool _ | with_reducible exact tasAgg _ | with_reducible exact tasAddr _ | with_reducible exact tsureAddr _ | with_reducible exact taskRoom _ | with_reducible exact tnoView _ | with_reducible exact tbehind _ | with_reducible exact tbyteOf _ | with_reducible exact tpartAt _ _ _ | with_reducible exact tfieldPlace _ _ | with_reducible exact tsameAddr _ _ | with_reducible exact tsamePointer _ _ | refine tb ?_ (fun _ => ?_) | refine tmap ?_ | refine tforA _ _ _ (fun _ _ => ?_) | refine tforR _ _ _ (fun _ _ => ?_) | refine tmapM (fun _ => ?_) _ | split | dsimp only)
theorem tslice (t : TypeId) (x : Value) (l h m : Option Value) : Tame P Bk (Instr.slice t x l h m) := by
  unfold Instr.slice
  repeat' (first | exact trivial | with_reducible exact tbounds _ _ _ _ _ _ | with_reducible exact tprogram | with_reducible exact tload _ _ | with_reducible exact tshape _ | with_reducible exact tfrozen _ | with_reducible exact tgetObj _ | with_reducible exact tnewObj _ | with_reducible exact tchoose _ | with_reducible exact tmark | with_reducible exact ttypeInfo _ | with_reducible exact tunderlying _ | with_reducible exact tsizeOf _ | with_reducible exact tzeroValue _ | with_reducible exact tisAgg _ | with_reducible exact tloadCells _ _ | with_reducible exact tloadVar _ _ | with_reducible exact tnewRow _ _ | with_reducible exact tnewVar _ _ | with_reducible exact telemOf _ | with_reducible exact tpart _ _ _ | with_reducible exact trtPanic _ | with_reducible exact tboundsPanic _ _ _ _ | with_reducible exact tasIntOf _ | with_reducible exact tasInt _ | with_reducible exact tasBool _ | with_reducible exact tasAgg _ | with_reducible exact tasAddr _ | with_reducible exact tsureAddr _ | with_reducible exact taskRoom _ | with_reducible exact tnoView _ | with_reducible exact tbehind _ | with_reducible exact tbyteOf _ | with_reducible exact tpartAt _ _ _ | with_reducible exact tfieldPlace _ _ | with_reducible exact tsameAddr _ _ | with_reducible exact tsamePointer _ _ | refine tb ?_ (fun _ => ?_) | refine tmap ?_ | refine tforA _ _ _ (fun _ _ => ?_) | refine tforR _ _ _ (fun _ _ => ?_) | refine tmapM (fun _ => ?_) _ | split | dsimp only)
theorem tsliceAt (t : TypeId) (x : Value) (l h m : Option Value) : Tame P Bk (Instr.sliceAt t x l h m) := by
  unfold Instr.sliceAt
  repeat' (first | exact trivial | with_reducible exact tbounds _ _ _ _ _ _ | with_reducible exact tslice _ _ _ _ _ | with_reducible exact tprogram | with_reducible exact tload _ _ | with_reducible exact tshape _ | with_reducible exact tfrozen _ | with_reducible exact tgetObj _ | with_reducible exact tnewObj _ | with_reducible exact tchoose _ | with_reducible exact tmark | with_reducible exact ttypeInfo _ | with_reducible exact tunderlying _ | with_reducible exact tsizeOf _ | with_reducible exact tzeroValue _ | with_reducible exact tisAgg _ | with_reducible exact tloadCells _ _ | with_reducible exact tloadVar _ _ | with_reducible exact tnewRow _ _ | with_reducible exact tnewVar _ _ | with_reducible exact telemOf _ | with_reducible exact tpart _ _ _ | with_reducible exact trtPanic _ | with_reducible exact tboundsPanic _ _ _ _ | with_reducible exact tasIntOf _ | with_reducible exact tasInt _ | with_reducible exact tasBool _ | with_reducible exact tasAgg _ | with_reducible exact tasAddr _ | with_reducible exact tsureAddr _ | with_reducible exact taskRoom _ | with_reducible exact tnoView _ | with_reducible exact tbehind _ | with_reducible exact tbyteOf _ | with_reducible exact tpartAt _ _ _ | with_reducible exact tfieldPlace _ _ | with_reducible exact tsameAddr _ _ | with_reducible exact tsamePointer _ _ | refine tb ?_ (fun _ => ?_) | refine tmap ?_ | refine tforA _ _ _ (fun _ _ => ?_) | refine tforR _ _ _ (fun _ _ => ?_) | refine tmapM (fun _ => ?_) _ | split | dsimp only)
theorem tfield (t : TypeId) (x : Value) (f : Nat) : Tame P Bk (Instr.field t x f) := by
  unfold Instr.field
  repeat' (first | exact trivial | with_reducible exact tprogram | with_reducible exact tload _ _ | with_reducible exact tshape _ | with_reducible exact tfrozen _ | with_reducible exact tgetObj _ | with_reducible exact tnewObj _ | with_reducible exact tchoose _ | with_reducible exact tmark | with_reducible exact ttypeInfo _ | with_reducible exact tunderlying _ | with_reducible exact tsizeOf _ | with_reducible exact tzeroValue _ | with_reducible exact tisAgg _ | with_reducible exact tloadCells _ _ | with_reducible exact tloadVar _ _ | with_reducible exact tnewRow _ _ | with_reducible exact tnewVar _ _ | with_reducible exact telemOf _ | with_reducible exact tpart _ _ _ | with_reducible exact trtPanic _ | with_reducible exact tboundsPanic _ _ _ _ | with_reducible exact tasIntOf _ | with_reducible exact tasInt _ | with_reducible exact tasBool _ | with_reducible exact tasAgg _ | with_reducible exact tasAddr _ | with_reducible exact tsureAddr _ | with_reducible exact taskRoom _ | with_reducible exact tnoView _ | with_reducible exact tbehind _ | with_reducible exact tbyteOf _ | with_reducible exact tpartAt _ _ _ | with_reducible exact tfieldPlace _ _ | with_reducible exact tsameAddr _ _ | with_reducible exact tsamePointer _ _ | refine tb ?_ (fun _ => ?_) | refine tmap ?_ | refine tforA _ _ _ (fun _ _ => ?_) | refine tforR _ _ _ (fun _ _ => ?_) | refine tmapM (fun _ => ?_) _ | split | dsimp only)
theorem tindex (t : TypeId) (x f : Value) : Tame P Bk (Instr.index t x f) := by
  unfold Instr.index
  repeat' (first | exact trivial | with_reducible exact tprogram | with_reducible exact tload _ _ | with_reducible exact tshape _ | with_reducible exact tfrozen _ | with_reducible exact tgetObj _ | with_reducible exact tnewObj _ | with_reducible exact tchoose _ | with_reducible exact tmark | with_reducible exact ttypeInfo _ | with_reducible exact tunderlying _ | with_reducible exact tsizeOf _ | with_reducible exact tzeroValue _ | with_reducible exact tisAgg _ | with_reducible exact tloadCells _ _ | with_reducible exact tloadVar _ _ | with_reducible exact tnewRow _ _ | with_reducible exact tnewVar _ _ | with_reducible exact telemOf _ | with_reducible exact tpart _ _ _ | with_reducible exact trtPanic _ | with_reducible exact tboundsPanic _ _ _ _ | with_reducible exact tasIntOf _ | with_reducible exact tasInt _ | with_reducible exact tasBool _ | with_reducible exact tasAgg _ | with_reducible exact tasAddr _ | with_reducible exact tsureAddr _ | with_reducible exact taskRoom _ | with_reducible exact tnoView _ | with_reducible exact tbehind _ | with_reducible exact tbyteOf _ | with_reducible exact tpartAt _ _ _ | with_reducible exact tfieldPlace _ _ | with_reducible exact tsameAddr _ _ | with_reducible exact tsamePointer _ _ | refine tb ?_ (fun _ => ?_) | refine tmap ?_ | refine tforA _ _ _ (fun _ _ => ?_) | refine tforR _ _ _ (fun _ _ => ?_) | refine tmapM (fun _ => ?_) _ | split | dsimp only)
theorem tbuild (t : TypeId) (ps : Array (Nat × Value)) : Tame P Bk (Instr.build t ps) := by
  unfold Instr.build
  repeat' (first | exact trivial | with_reducible exact tprogram | with_reducible exact tload _ _ | with_reducible exact tshape _ | with_reducible exact tfrozen _ | with_reducible exact tgetObj _ | with_reducible exact tnewObj _ | with_reducible exact tchoose _ | with_reducible exact tmark | with_reducible exact ttypeInfo _ | with_reducible exact tunderlying _ | with_reducible exact tsizeOf _ | with_reducible exact tzeroValue _ | with_reducible exact tisAgg _ | with_reducible exact tloadCells _ _ | with_reducible exact tloadVar _ _ | with_reducible exact tnewRow _ _ | with_reducible exact tnewVar _ _ | with_reducible exact telemOf _ | with_reducible exact tpart _ _ _ | with_reducible exact trtPanic _ | with_reducible exact tboundsPanic _ _ _ _ | with_reducible exact tasIntOf _ | with_reducible exact tasInt _ | with_reducible exact tasBool _ | with_reducible exact tasAgg _ | with_reducible exact tasAddr _ | with_reducible exact tsureAddr _ | with_reducible exact taskRoom _ | with_reducible exact tnoView _ | with_reducible exact tbehind _ | with_reducible exact tbyteOf _ | with_reducible exact tpartAt _ _ _ | with_reducible exact tfieldPlace _ _ | with_reducible exact tsameAddr _ _ | with_reducible exact tsamePointer _ _ | refine tb ?_ (fun _ => ?_) | refine tmap ?_ | refine tforA _ _ _ (fun _ _ => ?_) | refine tforR _ _ _ (fun _ _ => ?_) | refine tmapM (fun _ => ?_) _ | split | dsimp only)
theorem tbuildSlice (t : TypeId) (n : Nat) (ps : Array (Nat × Value)) : Tame P Bk (Instr.buildSlice t n ps) := by
  unfold Instr.buildSlice
  repeat' (first | exact trivial | with_reducible exact tprogram | with_reducible exact tload _ _ | with_reducible exact tshape _ | with_reducible exact tfrozen _ | with_reducible exact tgetObj _ | with_reducible exact tnewObj _ | with_reducible exact tchoose _ | with_reducible exact tmark | with_reducible exact ttypeInfo _ | with_reducible exact tunderlying _ | with_reducible exact tsizeOf _ | with_reducible exact tzeroValue _ | with_reducible exact tisAgg _ | with_reducible exact tloadCells _ _ | with_reducible exact tloadVar _ _ | with_reducible exact tnewRow _ _ | with_reducible exact tnewVar _ _ | with_reducible exact telemOf _ | with_reducible exact tpart _ _ _ | with_reducible exact trtPanic _ | with_reducible exact tboundsPanic _ _ _ _ | with_reducible exact tasIntOf _ | with_reducible exact tasInt _ | with_reducible exact tasBool _ | with_reducible exact tasAgg _ | with_reducible exact tasAddr _ | with_reducible exact tsureAddr _ | with_reducible exact taskRoom _ | with_reducible exact tnoView _ | with_reducible exact tbehind _ | with_reducible exact tbyteOf _ | with_reducible exact tpartAt _ _ _ | with_reducible exact tfieldPlace _ _ | with_reducible exact tsameAddr _ _ | with_reducible exact tsamePointer _ _ | refine tb ?_ (fun _ => ?_) | refine tmap ?_ | refine tforA _ _ _ (fun _ _ => ?_) | refine tforR _ _ _ (fun _ _ => ?_) | refine tmapM (fun _ => ?_) _ | split | dsimp only)
theorem tmakeSlice (t : TypeId) (l c : Value) : Tame P Bk (Instr.makeSlice t l c) := by
  unfold Instr.makeSlice
  repeat' (first | exact trivial | with_reducible exact tprogram | with_reducible exact tload _ _ | with_reducible exact tshape _ | with_reducible exact tfrozen _ | with_reducible exact tgetObj _ | with_reducible exact tnewObj _ | with_reducible exact tchoose _ | with_reducible exact tmark | with_reducible exact ttypeInfo _ | with_reducible exact tunderlying _ | with_reducible exact tsizeOf _ | with_reducible exact tzeroValue _ | with_reducible exact tisAgg _ | with_reducible exact tloadCells _ _ | with_reducible exact tloadVar _ _ | with_reducible exact tnewRow _ _ | with_reducible exact tnewVar _ _ | with_reducible exact telemOf _ | with_reducible exact tpart _ _ _ | with_reducible exact trtPanic _ | with_reducible exact tboundsPanic _ _ _ _ | with_reducible exact tasIntOf _ | with_reducible exact tasInt _ | with_reducible exact tasBool _ | with_reducible exact tasAgg _ | with_reducible exact tasAddr _ | with_reducible exact tsureAddr _ | with_reducible exact taskRoom _ | with_reducible exact tnoView _ | with_reducible exact tbehind _ | with_reducible exact tbyteOf _ | with_reducible exact tpartAt _ _ _ | with_reducible exact tfieldPlace _ _ | with_reducible exact tsameAddr _ _ | with_reducible exact tsamePointer _ _ | refine tb ?_ (fun _ => ?_) | refine tmap ?_ | refine tforA _ _ _ (fun _ _ => ?_) | refine tforR _ _ _ (fun _ _ => ?_) | refine tmapM (fun _ => ?_) _ | split | dsimp only)
theorem tmakeI (t : TypeId) (x : Value) : Tame P Bk (Instr.makeInterface t x) := by
  unfold Instr.makeInterface
  repeat' (first | exact trivial | with_reducible exact tprogram | with_reducible exact tload _ _ | with_reducible exact tshape _ | with_reducible exact tfrozen _ | with_reducible exact tgetObj _ | with_reducible exact tnewObj _ | with_reducible exact tchoose _ | with_reducible exact tmark | with_reducible exact ttypeInfo _ | with_reducible exact tunderlying _ | with_reducible exact tsizeOf _ | with_reducible exact tzeroValue _ | with_reducible exact tisAgg _ | with_reducible exact tloadCells _ _ | with_reducible exact tloadVar _ _ | with_reducible exact tnewRow _ _ | with_reducible exact tnewVar _ _ | with_reducible exact telemOf _ | with_reducible exact tpart _ _ _ | with_reducible exact trtPanic _ | with_reducible exact tboundsPanic _ _ _ _ | with_reducible exact tasIntOf _ | with_reducible exact tasInt _ | with_reducible exact tasBool _ | with_reducible exact tasAgg _ | with_reducible exact tasAddr _ | with_reducible exact tsureAddr _ | with_reducible exact taskRoom _ | with_reducible exact tnoView _ | with_reducible exact tbehind _ | with_reducible exact tbyteOf _ | with_reducible exact tpartAt _ _ _ | with_reducible exact tfieldPlace _ _ | with_reducible exact tsameAddr _ _ | with_reducible exact tsamePointer _ _ | refine tb ?_ (fun _ => ?_) | refine tmap ?_ | refine tforA _ _ _ (fun _ _ => ?_) | refine tforR _ _ _ (fun _ _ => ?_) | refine tmapM (fun _ => ?_) _ | split | dsimp only)
theorem textract (t : Value) (i : Nat) : Tame P Bk (Instr.extract t i) := by
  unfold Instr.extract
  repeat' (first | exact trivial | with_reducible exact tprogram | with_reducible exact tload _ _ | with_reducible exact tshape _ | with_reducible exact tfrozen _ | with_reducible exact tgetObj _ | with_reducible exact tnewObj _ | with_reducible exact tchoose _ | with_reducible exact tmark | with_reducible exact ttypeInfo _ | with_reducible exact tunderlying _ | with_reducible exact tsizeOf _ | with_reducible exact tzeroValue _ | with_reducible exact tisAgg _ | with_reducible exact tloadCells _ _ | with_reducible exact tloadVar _ _ | with_reducible exact tnewRow _ _ | with_reducible exact tnewVar _ _ | with_reducible exact telemOf _ | with_reducible exact tpart _ _ _ | with_reducible exact trtPanic _ | with_reducible exact tboundsPanic _ _ _ _ | with_reducible exact tasIntOf _ | with_reducible exact tasInt _ | with_reducible exact tasBool _ | with_reducible exact tasAgg _ | with_reducible exact tasAddr _ | with_reducible exact tsureAddr _ | with_reducible exact taskRoom _ | with_reducible exact tnoView _ | with_reducible exact tbehind _ | with_reducible exact tbyteOf _ | with_reducible exact tpartAt _ _ _ | with_reducible exact tfieldPlace _ _ | with_reducible exact tsameAddr _ _ | with_reducible exact tsamePointer _ _ | refine tb ?_ (fun _ => ?_) | refine tmap ?_ | refine tforA _ _ _ (fun _ _ => ?_) | refine tforR _ _ _ (fun _ _ => ?_) | refine tmapM (fun _ => ?_) _ | split | dsimp only)
theorem tbox (t : TypeId) (x : Value) : Tame P Bk (Instr.box t x) := by
  unfold Instr.box
  repeat' (first | exact trivial | with_reducible exact tprogram | with_reducible exact tload _ _ | with_reducible exact tshape _ | with_reducible exact tfrozen _ | with_reducible exact tgetObj _ | with_reducible exact tnewObj _ | with_reducible exact tchoose _ | with_reducible exact tmark | with_reducible exact ttypeInfo _ | with_reducible exact tunderlying _ | with_reducible exact tsizeOf _ | with_reducible exact tzeroValue _ | with_reducible exact tisAgg _ | with_reducible exact tloadCells _ _ | with_reducible exact tloadVar _ _ | with_reducible exact tnewRow _ _ | with_reducible exact tnewVar _ _ | with_reducible exact telemOf _ | with_reducible exact tpart _ _ _ | with_reducible exact trtPanic _ | with_reducible exact tboundsPanic _ _ _ _ | with_reducible exact tasIntOf _ | with_reducible exact tasInt _ | with_reducible exact tasBool _ | with_reducible exact tasAgg _ | with_reducible exact tasAddr _ | with_reducible exact tsureAddr _ | with_reducible exact taskRoom _ | with_reducible exact tnoView _ | with_reducible exact tbehind _ | with_reducible exact tbyteOf _ | with_reducible exact tpartAt _ _ _ | with_reducible exact tfieldPlace _ _ | with_reducible exact tsameAddr _ _ | with_reducible exact tsamePointer _ _ | refine tb ?_ (fun _ => ?_) | refine tmap ?_ | refine tforA _ _ _ (fun _ _ => ?_) | refine tforR _ _ _ (fun _ _ => ?_) | refine tmapM (fun _ => ?_) _ | split | dsimp only)
theorem talloc (t : TypeId) (x : Value) : Tame P Bk (Instr.alloc t true x) := by
  unfold Instr.alloc
  refine tb (tzeroValue _) fun z => ?_
  exact tb (tnewVar _ _) fun _ => trivial
theorem tlen (a : Array TypeId) (t : TypeId) (x : Array Value) : Tame P Bk (Builtin.len_ a t x) := by
  unfold Builtin.len_
  repeat' (first | exact trivial | with_reducible exact tprogram | with_reducible exact tload _ _ | with_reducible exact tshape _ | with_reducible exact tfrozen _ | with_reducible exact tgetObj _ | with_reducible exact tnewObj _ | with_reducible exact tchoose _ | with_reducible exact tmark | with_reducible exact ttypeInfo _ | with_reducible exact tunderlying _ | with_reducible exact tsizeOf _ | with_reducible exact tzeroValue _ | with_reducible exact tisAgg _ | with_reducible exact tloadCells _ _ | with_reducible exact tloadVar _ _ | with_reducible exact tnewRow _ _ | with_reducible exact tnewVar _ _ | with_reducible exact telemOf _ | with_reducible exact tpart _ _ _ | with_reducible exact trtPanic _ | with_reducible exact tboundsPanic _ _ _ _ | with_reducible exact tasIntOf _ | with_reducible exact tasInt _ | with_reducible exact tasBool _ | with_reducible exact tasAgg _ | with_reducible exact tasAddr _ | with_reducible exact tsureAddr _ | with_reducible exact taskRoom _ | with_reducible exact tnoView _ | with_reducible exact tbehind _ | with_reducible exact tbyteOf _ | with_reducible exact tpartAt _ _ _ | with_reducible exact tfieldPlace _ _ | with_reducible exact tsameAddr _ _ | with_reducible exact tsamePointer _ _ | refine tb ?_ (fun _ => ?_) | refine tmap ?_ | refine tforA _ _ _ (fun _ _ => ?_) | refine tforR _ _ _ (fun _ _ => ?_) | refine tmapM (fun _ => ?_) _ | split | dsimp only)
theorem tcap (a : Array TypeId) (t : TypeId) (x : Array Value) : Tame P Bk (Builtin.cap_ a t x) := by
  unfold Builtin.cap_
  repeat' (first | exact trivial | with_reducible exact tprogram | with_reducible exact tload _ _ | with_reducible exact tshape _ | with_reducible exact tfrozen _ | with_reducible exact tgetObj _ | with_reducible exact tnewObj _ | with_reducible exact tchoose _ | with_reducible exact tmark | with_reducible exact ttypeInfo _ | with_reducible exact tunderlying _ | with_reducible exact tsizeOf _ | with_reducible exact tzeroValue _ | with_reducible exact tisAgg _ | with_reducible exact tloadCells _ _ | with_reducible exact tloadVar _ _ | with_reducible exact tnewRow _ _ | with_reducible exact tnewVar _ _ | with_reducible exact telemOf _ | with_reducible exact tpart _ _ _ | with_reducible exact trtPanic _ | with_reducible exact tboundsPanic _ _ _ _ | with_reducible exact tasIntOf _ | with_reducible exact tasInt _ | with_reducible exact tasBool _ | with_reducible exact tasAgg _ | with_reducible exact tasAddr _ | with_reducible exact tsureAddr _ | with_reducible exact taskRoom _ | with_reducible exact tnoView _ | with_reducible exact tbehind _ | with_reducible exact tbyteOf _ | with_reducible exact tpartAt _ _ _ | with_reducible exact tfieldPlace _ _ | with_reducible exact tsameAddr _ _ | with_reducible exact tsamePointer _ _ | refine tb ?_ (fun _ => ?_) | refine tmap ?_ | refine tforA _ _ _ (fun _ _ => ?_) | refine tforR _ _ _ (fun _ _ => ?_) | refine tmapM (fun _ => ?_) _ | split | dsimp only)
theorem tlenOf (x : Value) : Tame P Bk (Builtin.lenOf x) := by
  unfold Builtin.lenOf
  repeat' (first | exact trivial | with_reducible exact tprogram | with_reducible exact tload _ _ | with_reducible exact tshape _ | with_reducible exact tfrozen _ | with_reducible exact tgetObj _ | with_reducible exact tnewObj _ | with_reducible exact tchoose _ | with_reducible exact tmark | with_reducible exact ttypeInfo _ | with_reducible exact tunderlying _ | with_reducible exact tsizeOf _ | with_reducible exact tzeroValue _ | with_reducible exact tisAgg _ | with_reducible exact tloadCells _ _ | with_reducible exact tloadVar _ _ | with_reducible exact tnewRow _ _ | with_reducible exact tnewVar _ _ | with_reducible exact telemOf _ | with_reducible exact tpart _ _ _ | with_reducible exact trtPanic _ | with_reducible exact tboundsPanic _ _ _ _ | with_reducible exact tasIntOf _ | with_reducible exact tasInt _ | with_reducible exact tasBool _ | with_reducible exact tasAgg _ | with_reducible exact tasAddr _ | with_reducible exact tsureAddr _ | with_reducible exact taskRoom _ | with_reducible exact tnoView _ | with_reducible exact tbehind _ | with_reducible exact tbyteOf _ | with_reducible exact tpartAt _ _ _ | with_reducible exact tfieldPlace _ _ | with_reducible exact tsameAddr _ _ | with_reducible exact tsamePointer _ _ | refine tb ?_ (fun _ => ?_) | refine tmap ?_ | refine tforA _ _ _ (fun _ _ => ?_) | refine tforR _ _ _ (fun _ _ => ?_) | refine tmapM (fun _ => ?_) _ | split | dsimp only)
theorem tfirst (s n : Nat) (x : Value) : Tame P Bk (Builtin.firstCells s n x) := by
  unfold Builtin.firstCells
  repeat' (first | exact trivial | with_reducible exact tprogram | with_reducible exact tload _ _ | with_reducible exact tshape _ | with_reducible exact tfrozen _ | with_reducible exact tgetObj _ | with_reducible exact tnewObj _ | with_reducible exact tchoose _ | with_reducible exact tmark | with_reducible exact ttypeInfo _ | with_reducible exact tunderlying _ | with_reducible exact tsizeOf _ | with_reducible exact tzeroValue _ | with_reducible exact tisAgg _ | with_reducible exact tloadCells _ _ | with_reducible exact tloadVar _ _ | with_reducible exact tnewRow _ _ | with_reducible exact tnewVar _ _ | with_reducible exact telemOf _ | with_reducible exact tpart _ _ _ | with_reducible exact trtPanic _ | with_reducible exact tboundsPanic _ _ _ _ | with_reducible exact tasIntOf _ | with_reducible exact tasInt _ | with_reducible exact tasBool _ | with_reducible exact tasAgg _ | with_reducible exact tasAddr _ | with_reducible exact tsureAddr _ | with_reducible exact taskRoom _ | with_reducible exact tnoView _ | with_reducible exact tbehind _ | with_reducible exact tbyteOf _ | with_reducible exact tpartAt _ _ _ | with_reducible exact tfieldPlace _ _ | with_reducible exact tsameAddr _ _ | with_reducible exact tsamePointer _ _ | refine tb ?_ (fun _ => ?_) | refine tmap ?_ | refine tforA _ _ _ (fun _ _ => ?_) | refine tforR _ _ _ (fun _ _ => ?_) | refine tmapM (fun _ => ?_) _ | split | dsimp only)
theorem tholds (a : Addr) (n : Nat) : Tame P Bk (Builtin.holdsCells a n) := by
  unfold Builtin.holdsCells
  repeat' (first | exact trivial | with_reducible exact tprogram | with_reducible exact tload _ _ | with_reducible exact tshape _ | with_reducible exact tfrozen _ | with_reducible exact tgetObj _ | with_reducible exact tnewObj _ | with_reducible exact tchoose _ | with_reducible exact tmark | with_reducible exact ttypeInfo _ | with_reducible exact tunderlying _ | with_reducible exact tsizeOf _ | with_reducible exact tzeroValue _ | with_reducible exact tisAgg _ | with_reducible exact tloadCells _ _ | with_reducible exact tloadVar _ _ | with_reducible exact tnewRow _ _ | with_reducible exact tnewVar _ _ | with_reducible exact telemOf _ | with_reducible exact tpart _ _ _ | with_reducible exact trtPanic _ | with_reducible exact tboundsPanic _ _ _ _ | with_reducible exact tasIntOf _ | with_reducible exact tasInt _ | with_reducible exact tasBool _ | with_reducible exact tasAgg _ | with_reducible exact tasAddr _ | with_reducible exact tsureAddr _ | with_reducible exact taskRoom _ | with_reducible exact tnoView _ | with_reducible exact tbehind _ | with_reducible exact tbyteOf _ | with_reducible exact tpartAt _ _ _ | with_reducible exact tfieldPlace _ _ | with_reducible exact tsameAddr _ _ | with_reducible exact tsamePointer _ _ | refine tb ?_ (fun _ => ?_) | refine tmap ?_ | refine tforA _ _ _ (fun _ _ => ?_) | refine tforR _ _ _ (fun _ _ => ?_) | refine tmapM (fun _ => ?_) _ | split | dsimp only)
theorem tmayShare (a b c : Nat) (x : Option Addr) (v : Value) : Tame P Bk (Builtin.mayShare a b c x v) := by
  unfold Builtin.mayShare
  repeat' (first | exact trivial | with_reducible exact tholds _ _ | with_reducible exact tprogram | with_reducible exact tload _ _ | with_reducible exact tshape _ | with_reducible exact tfrozen _ | with_reducible exact tgetObj _ | with_reducible exact tnewObj _ | with_reducible exact tchoose _ | with_reducible exact tmark | with_reducible exact ttypeInfo _ | with_reducible exact tunderlying _ | with_reducible exact tsizeOf _ | with_reducible exact tzeroValue _ | with_reducible exact tisAgg _ | with_reducible exact tloadCells _ _ | with_reducible exact tloadVar _ _ | with_reducible exact tnewRow _ _ | with_reducible exact tnewVar _ _ | with_reducible exact telemOf _ | with_reducible exact tpart _ _ _ | with_reducible exact trtPanic _ | with_reducible exact tboundsPanic _ _ _ _ | with_reducible exact tasIntOf _ | with_reducible exact tasInt _ | with_reducible exact tasBool _ | with_reducible exact tasAgg _ | with_reducible exact tasAddr _ | with_reducible exact tsureAddr _ | with_reducible exact taskRoom _ | with_reducible exact tnoView _ | with_reducible exact tbehind _ | with_reducible exact tbyteOf _ | with_reducible exact tpartAt _ _ _ | with_reducible exact tfieldPlace _ _ | with_reducible exact tsameAddr _ _ | with_reducible exact tsamePointer _ _ | refine tb ?_ (fun _ => ?_) | refine tmap ?_ | refine tforA _ _ _ (fun _ _ => ?_) | refine tforR _ _ _ (fun _ _ => ?_) | refine tmapM (fun _ => ?_) _ | split | dsimp only)
end
end Co
end Go.Proofs.Ytgeakpeodhhffaa
namespace Go.Proofs.Ytgeakpeodhhffaa
open Go Go.Conc
set_option linter.unusedVariables false
set_option linter.unusedSimpArgs false
namespace Co
section
variable {P : Program} {Bk : Nat → Prop}
theorem tstoreA {a : Addr} (h : Bk a.block) (k : Nat) (l : List Value) (i : Nat) : Tame P Bk (storeCells (a.add k) l i) :=
  tstoreCells (by rw [show (a.add k).block = a.block by unfold Addr.add; split <;> rfl]; exact h) l i
theorem tfirst0 {α : Type} (s : Nat) (v : Value) (f : Array Value → Sem α) (hf : Tame P Bk (f #[])) : Tame P Bk (Builtin.firstCells s 0 v >>= f) := by
  unfold Builtin.firstCells
  split
  · rename_i a _ _
    rw [Nat.zero_mul]
    exact hf
  · exact hf
  · rename_i s
    have e : (s.extract 0 0).data.map (fun b => Value.int .u8 b.toNat) = #[] := by simp [ByteArray.extract, ByteArray.copySlice]
    rw [e]
    exact hf
  · exact trivial
theorem tcopyA {a : Addr} (hb : Bk a.block) (Ts : Array TypeId) (t : TypeId) (n c : Nat) (x : Value) : Tame P Bk (Builtin.copy_ Ts t #[.slice (some a) n c, x]) := by
  unfold Builtin.copy_
  repeat' (first | with_reducible exact tpure _ | with_reducible exact tstuck _ | with_reducible exact tunsup _ | with_reducible exact tgoPanic _ | with_reducible exact tlenOf _ | with_reducible exact tfirst _ _ _ | with_reducible exact tmayShare _ _ _ _ _ | with_reducible exact tprogram | with_reducible exact tload _ _ | with_reducible exact tshape _ | with_reducible exact tfrozen _ | with_reducible exact tgetObj _ | with_reducible exact tnewObj _ | with_reducible exact tchoose _ | with_reducible exact tmark | with_reducible exact ttypeInfo _ | with_reducible exact tunderlying _ | with_reducible exact tsizeOf _ | with_reducible exact tzeroValue _ | with_reducible exact tisAgg _ | with_reducible exact tloadCells _ _ | with_reducible exact tloadVar _ _ | with_reducible exact tnewRow _ _ | with_reducible exact tnewVar _ _ | with_reducible exact telemOf _ | with_reducible exact tpart _ _ _ | with_reducible exact trtPanic _ | with_reducible exact tboundsPanic _ _ _ _ | with_reducible exact tasIntOf _ | with_reducible exact tasInt _ | with_reducible exact tasBool _ | with_reducible exact tasAgg _ | with_reducible exact tasAddr _ | with_reducible exact tsureAddr _ | with_reducible exact taskRoom _ | with_reducible exact tnoView _ | with_reducible exact tbehind _ | with_reducible exact tbyteOf _ | with_reducible exact tpartAt _ _ _ | with_reducible exact tfieldPlace _ _ | with_reducible exact tsameAddr _ _ | with_reducible exact tsamePointer _ _ | refine tb ?_ (fun _ => ?_) | refine tmap ?_ | split | dsimp only)
  all_goals (rename (_, _, _) = _ => hq; simp at hq; obtain ⟨_, ⟨rfl, rfl, rfl⟩, _⟩ := hq; exact tstoreCells hb _ _)
theorem tcopyN (Ts : Array TypeId) (t : TypeId) (n c : Nat) (x : Value) : Tame P Bk (Builtin.copy_ Ts t #[.slice none n c, x]) := by
  unfold Builtin.copy_
  repeat' (first | with_reducible exact tpure _ | with_reducible exact tstuck _ | with_reducible exact tunsup _ | with_reducible exact tgoPanic _ | with_reducible exact tlenOf _ | with_reducible exact tfirst _ _ _ | with_reducible exact tmayShare _ _ _ _ _ | with_reducible exact tprogram | with_reducible exact tload _ _ | with_reducible exact tshape _ | with_reducible exact tfrozen _ | with_reducible exact tgetObj _ | with_reducible exact tnewObj _ | with_reducible exact tchoose _ | with_reducible exact tmark | with_reducible exact ttypeInfo _ | with_reducible exact tunderlying _ | with_reducible exact tsizeOf _ | with_reducible exact tzeroValue _ | with_reducible exact tisAgg _ | with_reducible exact tloadCells _ _ | with_reducible exact tloadVar _ _ | with_reducible exact tnewRow _ _ | with_reducible exact tnewVar _ _ | with_reducible exact telemOf _ | with_reducible exact tpart _ _ _ | with_reducible exact trtPanic _ | with_reducible exact tboundsPanic _ _ _ _ | with_reducible exact tasIntOf _ | with_reducible exact tasInt _ | with_reducible exact tasBool _ | with_reducible exact tasAgg _ | with_reducible exact tasAddr _ | with_reducible exact tsureAddr _ | with_reducible exact taskRoom _ | with_reducible exact tnoView _ | with_reducible exact tbehind _ | with_reducible exact tbyteOf _ | with_reducible exact tpartAt _ _ _ | with_reducible exact tfieldPlace _ _ | with_reducible exact tsameAddr _ _ | with_reducible exact tsamePointer _ _ | refine tb ?_ (fun _ => ?_) | refine tmap ?_ | split | dsimp only)
  all_goals (rename (_, _, _) = _ => hq; simp at hq)
theorem tclearA {a : Addr} (hb : Bk a.block) (Ts : Array TypeId) (t : TypeId) (n c : Nat) : Tame P Bk (Builtin.clear_ Ts t #[.slice (some a) n c]) := by
  unfold Builtin.clear_
  repeat' (first | with_reducible exact tpure _ | with_reducible exact tstuck _ | with_reducible exact tunsup _ | with_reducible exact tgoPanic _ | with_reducible exact tlenOf _ | with_reducible exact tfirst _ _ _ | with_reducible exact tmayShare _ _ _ _ _ | with_reducible exact tprogram | with_reducible exact tload _ _ | with_reducible exact tshape _ | with_reducible exact tfrozen _ | with_reducible exact tgetObj _ | with_reducible exact tnewObj _ | with_reducible exact tchoose _ | with_reducible exact tmark | with_reducible exact ttypeInfo _ | with_reducible exact tunderlying _ | with_reducible exact tsizeOf _ | with_reducible exact tzeroValue _ | with_reducible exact tisAgg _ | with_reducible exact tloadCells _ _ | with_reducible exact tloadVar _ _ | with_reducible exact tnewRow _ _ | with_reducible exact tnewVar _ _ | with_reducible exact telemOf _ | with_reducible exact tpart _ _ _ | with_reducible exact trtPanic _ | with_reducible exact tboundsPanic _ _ _ _ | with_reducible exact tasIntOf _ | with_reducible exact tasInt _ | with_reducible exact tasBool _ | with_reducible exact tasAgg _ | with_reducible exact tasAddr _ | with_reducible exact tsureAddr _ | with_reducible exact taskRoom _ | with_reducible exact tnoView _ | with_reducible exact tbehind _ | with_reducible exact tbyteOf _ | with_reducible exact tpartAt _ _ _ | with_reducible exact tfieldPlace _ _ | with_reducible exact tsameAddr _ _ | with_reducible exact tsamePointer _ _ | refine tb ?_ (fun _ => ?_) | refine tmap ?_ | split | dsimp only)
  all_goals (rename (_, _) = _ => hq; simp at hq)
  all_goals (obtain ⟨_, rfl, rfl, rfl⟩ := hq; exact tstoreCells hb _ _)
theorem tclearN (Ts : Array TypeId) (t : TypeId) (n c : Nat) : Tame P Bk (Builtin.clear_ Ts t #[.slice none n c]) := by
  unfold Builtin.clear_
  repeat' (first | with_reducible exact tpure _ | with_reducible exact tstuck _ | with_reducible exact tunsup _ | with_reducible exact tgoPanic _ | with_reducible exact tlenOf _ | with_reducible exact tfirst _ _ _ | with_reducible exact tmayShare _ _ _ _ _ | with_reducible exact tprogram | with_reducible exact tload _ _ | with_reducible exact tshape _ | with_reducible exact tfrozen _ | with_reducible exact tgetObj _ | with_reducible exact tnewObj _ | with_reducible exact tchoose _ | with_reducible exact tmark | with_reducible exact ttypeInfo _ | with_reducible exact tunderlying _ | with_reducible exact tsizeOf _ | with_reducible exact tzeroValue _ | with_reducible exact tisAgg _ | with_reducible exact tloadCells _ _ | with_reducible exact tloadVar _ _ | with_reducible exact tnewRow _ _ | with_reducible exact tnewVar _ _ | with_reducible exact telemOf _ | with_reducible exact tpart _ _ _ | with_reducible exact trtPanic _ | with_reducible exact tboundsPanic _ _ _ _ | with_reducible exact tasIntOf _ | with_reducible exact tasInt _ | with_reducible exact tasBool _ | with_reducible exact tasAgg _ | with_reducible exact tasAddr _ | with_reducible exact tsureAddr _ | with_reducible exact taskRoom _ | with_reducible exact tnoView _ | with_reducible exact tbehind _ | with_reducible exact tbyteOf _ | with_reducible exact tpartAt _ _ _ | with_reducible exact tfieldPlace _ _ | with_reducible exact tsameAddr _ _ | with_reducible exact tsamePointer _ _ | refine tb ?_ (fun _ => ?_) | refine tmap ?_ | split | dsimp only)
  all_goals (rename (_, _) = _ => hq; simp at hq)
set_option maxHeartbeats 4000000 in
/-- append, whatever its base: 'hst' serves the store in place -/
theorem tappend_gen (Ts : Array TypeId) (t : TypeId) (base : Option Addr) (m c : Nat) (x : Value)
    (hst : ∀ (z : Bool) (s n : Nat) (e : TypeId), m + n ≤ c → ∀ a, base = some a → Tame P Bk ((if (!z) = true then Builtin.firstCells s n x else if n * s = 0 then pure #[] else do pure (Builtin.zeroCells (← zeroValue e).cells n)) >>= fun new => storeCells (a.add (m * s)) new.toList >>= fun _ => (pure (Value.slice base (m + n) c) : Sem Value))) :
    Tame P Bk (Builtin.append_ Ts t #[.slice base m c, x]) := by
  unfold Builtin.append_
  split
  · rename (_, _, _) = _ => hq
    refine tb (tunderlying _) (fun _ => ?_)
    split
    · split
      · rename_i _ _ e _ base' m' c'
        obtain ⟨_, ⟨rfl, rfl, rfl⟩, rfl⟩ : _ ∧ (base = base' ∧ m = m' ∧ c = c') ∧ x = _ := by simpa using hq
        refine tb (tsizeOf _) (fun s => ?_)
        dsimp only
        have hF : ∀ n, m + n ≤ c → ∀ a, base = some a → Tame P Bk (Builtin.firstCells s n x >>= fun new => storeCells (a.add (m * s)) new.toList >>= fun _ => (pure (Value.slice base (m + n) c) : Sem Value)) := fun n h a ha => hst false s n e h a ha
        have hT : ∀ n, m + n ≤ c → ∀ a, base = some a → Tame P Bk ((if n * s = 0 then pure #[] else do pure (Builtin.zeroCells (← zeroValue e).cells n)) >>= fun new => storeCells (a.add (m * s)) new.toList >>= fun _ => (pure (Value.slice base (m + n) c) : Sem Value)) := fun n h a ha => hst true s n e h a ha
        have z0 : ∀ (n : Nat), Tame P Bk (if n * s = 0 then pure #[] else do pure (Builtin.zeroCells (← zeroValue e).cells n) : Sem (Array Value)) := fun n => by
          split
          · exact tpure _
          · exact tb (tzeroValue _) fun _ => tpure _
        clear hst
        split
        · refine tb (tunderlying _) fun d => tb (tpure _) fun zeros => ?_
          cases zeros
          · simp only [Bool.not_false, Bool.not_true, if_true, if_false, Bool.false_eq_true, false_or, true_or, and_true, ↓reduceIte]
            cases base with
            | none => (repeat' (first | with_reducible exact tpure _ | with_reducible exact tstuck _ | with_reducible exact tunsup _ | with_reducible exact tgoPanic _ | with_reducible exact tlenOf _ | with_reducible exact tfirst _ _ _ | with_reducible exact tmayShare _ _ _ _ _ | with_reducible exact z0 _ | with_reducible exact tprogram | with_reducible exact tload _ _ | with_reducible exact tshape _ | with_reducible exact tfrozen _ | with_reducible exact tgetObj _ | with_reducible exact tnewObj _ | with_reducible exact tchoose _ | with_reducible exact tmark | with_reducible exact ttypeInfo _ | with_reducible exact tunderlying _ | with_reducible exact tsizeOf _ | with_reducible exact tzeroValue _ | with_reducible exact tisAgg _ | with_reducible exact tloadCells _ _ | with_reducible exact tloadVar _ _ | with_reducible exact tnewRow _ _ | with_reducible exact tnewVar _ _ | with_reducible exact telemOf _ | with_reducible exact tpart _ _ _ | with_reducible exact trtPanic _ | with_reducible exact tboundsPanic _ _ _ _ | with_reducible exact tasIntOf _ | with_reducible exact tasInt _ | with_reducible exact tasBool _ | with_reducible exact tasAgg _ | with_reducible exact tasAddr _ | with_reducible exact tsureAddr _ | with_reducible exact taskRoom _ | with_reducible exact tnoView _ | with_reducible exact tbehind _ | with_reducible exact tbyteOf _ | with_reducible exact tpartAt _ _ _ | with_reducible exact tfieldPlace _ _ | with_reducible exact tsameAddr _ _ | with_reducible exact tsamePointer _ _ | refine tb ?_ (fun _ => ?_) | refine tmap ?_ | split | dsimp only))
            | some a => (repeat' (first | with_reducible exact tpure _ | with_reducible exact tstuck _ | with_reducible exact tunsup _ | with_reducible exact tgoPanic _ | with_reducible exact hF _ (by assumption) _ rfl | with_reducible exact hT _ (by assumption) _ rfl | with_reducible exact tlenOf _ | with_reducible exact tfirst _ _ _ | with_reducible exact tmayShare _ _ _ _ _ | with_reducible exact z0 _ | with_reducible exact tprogram | with_reducible exact tload _ _ | with_reducible exact tshape _ | with_reducible exact tfrozen _ | with_reducible exact tgetObj _ | with_reducible exact tnewObj _ | with_reducible exact tchoose _ | with_reducible exact tmark | with_reducible exact ttypeInfo _ | with_reducible exact tunderlying _ | with_reducible exact tsizeOf _ | with_reducible exact tzeroValue _ | with_reducible exact tisAgg _ | with_reducible exact tloadCells _ _ | with_reducible exact tloadVar _ _ | with_reducible exact tnewRow _ _ | with_reducible exact tnewVar _ _ | with_reducible exact telemOf _ | with_reducible exact tpart _ _ _ | with_reducible exact trtPanic _ | with_reducible exact tboundsPanic _ _ _ _ | with_reducible exact tasIntOf _ | with_reducible exact tasInt _ | with_reducible exact tasBool _ | with_reducible exact tasAgg _ | with_reducible exact tasAddr _ | with_reducible exact tsureAddr _ | with_reducible exact taskRoom _ | with_reducible exact tnoView _ | with_reducible exact tbehind _ | with_reducible exact tbyteOf _ | with_reducible exact tpartAt _ _ _ | with_reducible exact tfieldPlace _ _ | with_reducible exact tsameAddr _ _ | with_reducible exact tsamePointer _ _ | refine tb ?_ (fun _ => ?_) | refine tmap ?_ | split | dsimp only))
          · simp only [Bool.not_false, Bool.not_true, if_true, if_false, Bool.false_eq_true, false_or, true_or, and_true, ↓reduceIte]
            cases base with
            | none => (repeat' (first | with_reducible exact tpure _ | with_reducible exact tstuck _ | with_reducible exact tunsup _ | with_reducible exact tgoPanic _ | with_reducible exact tlenOf _ | with_reducible exact tfirst _ _ _ | with_reducible exact tmayShare _ _ _ _ _ | with_reducible exact z0 _ | with_reducible exact tprogram | with_reducible exact tload _ _ | with_reducible exact tshape _ | with_reducible exact tfrozen _ | with_reducible exact tgetObj _ | with_reducible exact tnewObj _ | with_reducible exact tchoose _ | with_reducible exact tmark | with_reducible exact ttypeInfo _ | with_reducible exact tunderlying _ | with_reducible exact tsizeOf _ | with_reducible exact tzeroValue _ | with_reducible exact tisAgg _ | with_reducible exact tloadCells _ _ | with_reducible exact tloadVar _ _ | with_reducible exact tnewRow _ _ | with_reducible exact tnewVar _ _ | with_reducible exact telemOf _ | with_reducible exact tpart _ _ _ | with_reducible exact trtPanic _ | with_reducible exact tboundsPanic _ _ _ _ | with_reducible exact tasIntOf _ | with_reducible exact tasInt _ | with_reducible exact tasBool _ | with_reducible exact tasAgg _ | with_reducible exact tasAddr _ | with_reducible exact tsureAddr _ | with_reducible exact taskRoom _ | with_reducible exact tnoView _ | with_reducible exact tbehind _ | with_reducible exact tbyteOf _ | with_reducible exact tpartAt _ _ _ | with_reducible exact tfieldPlace _ _ | with_reducible exact tsameAddr _ _ | with_reducible exact tsamePointer _ _ | refine tb ?_ (fun _ => ?_) | refine tmap ?_ | split | dsimp only))
            | some a => (repeat' (first | with_reducible exact tpure _ | with_reducible exact tstuck _ | with_reducible exact tunsup _ | with_reducible exact tgoPanic _ | with_reducible exact hF _ (by assumption) _ rfl | with_reducible exact hT _ (by assumption) _ rfl | with_reducible exact tlenOf _ | with_reducible exact tfirst _ _ _ | with_reducible exact tmayShare _ _ _ _ _ | with_reducible exact z0 _ | with_reducible exact tprogram | with_reducible exact tload _ _ | with_reducible exact tshape _ | with_reducible exact tfrozen _ | with_reducible exact tgetObj _ | with_reducible exact tnewObj _ | with_reducible exact tchoose _ | with_reducible exact tmark | with_reducible exact ttypeInfo _ | with_reducible exact tunderlying _ | with_reducible exact tsizeOf _ | with_reducible exact tzeroValue _ | with_reducible exact tisAgg _ | with_reducible exact tloadCells _ _ | with_reducible exact tloadVar _ _ | with_reducible exact tnewRow _ _ | with_reducible exact tnewVar _ _ | with_reducible exact telemOf _ | with_reducible exact tpart _ _ _ | with_reducible exact trtPanic _ | with_reducible exact tboundsPanic _ _ _ _ | with_reducible exact tasIntOf _ | with_reducible exact tasInt _ | with_reducible exact tasBool _ | with_reducible exact tasAgg _ | with_reducible exact tasAddr _ | with_reducible exact tsureAddr _ | with_reducible exact taskRoom _ | with_reducible exact tnoView _ | with_reducible exact tbehind _ | with_reducible exact tbyteOf _ | with_reducible exact tpartAt _ _ _ | with_reducible exact tfieldPlace _ _ | with_reducible exact tsameAddr _ _ | with_reducible exact tsamePointer _ _ | refine tb ?_ (fun _ => ?_) | refine tmap ?_ | split | dsimp only))
        · refine tb (tpure _) fun zeros => ?_
          cases zeros
          · simp only [Bool.not_false, Bool.not_true, if_true, if_false, Bool.false_eq_true, false_or, true_or, and_true, ↓reduceIte]
            cases base with
            | none => (repeat' (first | with_reducible exact tpure _ | with_reducible exact tstuck _ | with_reducible exact tunsup _ | with_reducible exact tgoPanic _ | with_reducible exact tlenOf _ | with_reducible exact tfirst _ _ _ | with_reducible exact tmayShare _ _ _ _ _ | with_reducible exact z0 _ | with_reducible exact tprogram | with_reducible exact tload _ _ | with_reducible exact tshape _ | with_reducible exact tfrozen _ | with_reducible exact tgetObj _ | with_reducible exact tnewObj _ | with_reducible exact tchoose _ | with_reducible exact tmark | with_reducible exact ttypeInfo _ | with_reducible exact tunderlying _ | with_reducible exact tsizeOf _ | with_reducible exact tzeroValue _ | with_reducible exact tisAgg _ | with_reducible exact tloadCells _ _ | with_reducible exact tloadVar _ _ | with_reducible exact tnewRow _ _ | with_reducible exact tnewVar _ _ | with_reducible exact telemOf _ | with_reducible exact tpart _ _ _ | with_reducible exact trtPanic _ | with_reducible exact tboundsPanic _ _ _ _ | with_reducible exact tasIntOf _ | with_reducible exact tasInt _ | with_reducible exact tasBool _ | with_reducible exact tasAgg _ | with_reducible exact tasAddr _ | with_reducible exact tsureAddr _ | with_reducible exact taskRoom _ | with_reducible exact tnoView _ | with_reducible exact tbehind _ | with_reducible exact tbyteOf _ | with_reducible exact tpartAt _ _ _ | with_reducible exact tfieldPlace _ _ | with_reducible exact tsameAddr _ _ | with_reducible exact tsamePointer _ _ | refine tb ?_ (fun _ => ?_) | refine tmap ?_ | split | dsimp only))
            | some a => (repeat' (first | with_reducible exact tpure _ | with_reducible exact tstuck _ | with_reducible exact tunsup _ | with_reducible exact tgoPanic _ | with_reducible exact hF _ (by assumption) _ rfl | with_reducible exact hT _ (by assumption) _ rfl | with_reducible exact tlenOf _ | with_reducible exact tfirst _ _ _ | with_reducible exact tmayShare _ _ _ _ _ | with_reducible exact z0 _ | with_reducible exact tprogram | with_reducible exact tload _ _ | with_reducible exact tshape _ | with_reducible exact tfrozen _ | with_reducible exact tgetObj _ | with_reducible exact tnewObj _ | with_reducible exact tchoose _ | with_reducible exact tmark | with_reducible exact ttypeInfo _ | with_reducible exact tunderlying _ | with_reducible exact tsizeOf _ | with_reducible exact tzeroValue _ | with_reducible exact tisAgg _ | with_reducible exact tloadCells _ _ | with_reducible exact tloadVar _ _ | with_reducible exact tnewRow _ _ | with_reducible exact tnewVar _ _ | with_reducible exact telemOf _ | with_reducible exact tpart _ _ _ | with_reducible exact trtPanic _ | with_reducible exact tboundsPanic _ _ _ _ | with_reducible exact tasIntOf _ | with_reducible exact tasInt _ | with_reducible exact tasBool _ | with_reducible exact tasAgg _ | with_reducible exact tasAddr _ | with_reducible exact tsureAddr _ | with_reducible exact taskRoom _ | with_reducible exact tnoView _ | with_reducible exact tbehind _ | with_reducible exact tbyteOf _ | with_reducible exact tpartAt _ _ _ | with_reducible exact tfieldPlace _ _ | with_reducible exact tsameAddr _ _ | with_reducible exact tsamePointer _ _ | refine tb ?_ (fun _ => ?_) | refine tmap ?_ | split | dsimp only))
          · simp only [Bool.not_false, Bool.not_true, if_true, if_false, Bool.false_eq_true, false_or, true_or, and_true, ↓reduceIte]
            cases base with
            | none => (repeat' (first | with_reducible exact tpure _ | with_reducible exact tstuck _ | with_reducible exact tunsup _ | with_reducible exact tgoPanic _ | with_reducible exact tlenOf _ | with_reducible exact tfirst _ _ _ | with_reducible exact tmayShare _ _ _ _ _ | with_reducible exact z0 _ | with_reducible exact tprogram | with_reducible exact tload _ _ | with_reducible exact tshape _ | with_reducible exact tfrozen _ | with_reducible exact tgetObj _ | with_reducible exact tnewObj _ | with_reducible exact tchoose _ | with_reducible exact tmark | with_reducible exact ttypeInfo _ | with_reducible exact tunderlying _ | with_reducible exact tsizeOf _ | with_reducible exact tzeroValue _ | with_reducible exact tisAgg _ | with_reducible exact tloadCells _ _ | with_reducible exact tloadVar _ _ | with_reducible exact tnewRow _ _ | with_reducible exact tnewVar _ _ | with_reducible exact telemOf _ | with_reducible exact tpart _ _ _ | with_reducible exact trtPanic _ | with_reducible exact tboundsPanic _ _ _ _ | with_reducible exact tasIntOf _ | with_reducible exact tasInt _ | with_reducible exact tasBool _ | with_reducible exact tasAgg _ | with_reducible exact tasAddr _ | with_reducible exact tsureAddr _ | with_reducible exact taskRoom _ | with_reducible exact tnoView _ | with_reducible exact tbehind _ | with_reducible exact tbyteOf _ | with_reducible exact tpartAt _ _ _ | with_reducible exact tfieldPlace _ _ | with_reducible exact tsameAddr _ _ | with_reducible exact tsamePointer _ _ | refine tb ?_ (fun _ => ?_) | refine tmap ?_ | split | dsimp only))
            | some a => (repeat' (first | with_reducible exact tpure _ | with_reducible exact tstuck _ | with_reducible exact tunsup _ | with_reducible exact tgoPanic _ | with_reducible exact hF _ (by assumption) _ rfl | with_reducible exact hT _ (by assumption) _ rfl | with_reducible exact tlenOf _ | with_reducible exact tfirst _ _ _ | with_reducible exact tmayShare _ _ _ _ _ | with_reducible exact z0 _ | with_reducible exact tprogram | with_reducible exact tload _ _ | with_reducible exact tshape _ | with_reducible exact tfrozen _ | with_reducible exact tgetObj _ | with_reducible exact tnewObj _ | with_reducible exact tchoose _ | with_reducible exact tmark | with_reducible exact ttypeInfo _ | with_reducible exact tunderlying _ | with_reducible exact tsizeOf _ | with_reducible exact tzeroValue _ | with_reducible exact tisAgg _ | with_reducible exact tloadCells _ _ | with_reducible exact tloadVar _ _ | with_reducible exact tnewRow _ _ | with_reducible exact tnewVar _ _ | with_reducible exact telemOf _ | with_reducible exact tpart _ _ _ | with_reducible exact trtPanic _ | with_reducible exact tboundsPanic _ _ _ _ | with_reducible exact tasIntOf _ | with_reducible exact tasInt _ | with_reducible exact tasBool _ | with_reducible exact tasAgg _ | with_reducible exact tasAddr _ | with_reducible exact tsureAddr _ | with_reducible exact taskRoom _ | with_reducible exact tnoView _ | with_reducible exact tbehind _ | with_reducible exact tbyteOf _ | with_reducible exact tpartAt _ _ _ | with_reducible exact tfieldPlace _ _ | with_reducible exact tsameAddr _ _ | with_reducible exact tsamePointer _ _ | refine tb ?_ (fun _ => ?_) | refine tmap ?_ | split | dsimp only))
      · exact tstuck _
    · exact tstuck _
  · exact tstuck _
theorem tappendA {a : Addr} (hb : Bk a.block) (Ts : Array TypeId) (t : TypeId) (m c : Nat) (x : Value) : Tame P Bk (Builtin.append_ Ts t #[.slice (some a) m c, x]) :=
  tappend_gen Ts t (some a) m c x (fun z s n e _ a' ha => by
    obtain rfl := Option.some.inj ha
    refine tb ?_ fun _ => tb (tstoreA hb _ _ _) fun _ => tpure _
    split
    · exact tfirst _ _ _
    · split
      · exact tpure _
      · exact tb (tzeroValue _) fun _ => tpure _)
theorem tappendN (Ts : Array TypeId) (t : TypeId) (m c : Nat) (x : Value) : Tame P Bk (Builtin.append_ Ts t #[.slice none m c, x]) :=
  tappend_gen Ts t none m c x (fun z s n e _ a' ha => by cases ha)
theorem tappend0 (a : Option Addr) (Ts : Array TypeId) (t : TypeId) (m : Nat) (x : Value) : Tame P Bk (Builtin.append_ Ts t #[.slice a m 0, x]) :=
  tappend_gen Ts t a m 0 x (fun z s n e h a' ha => by
    obtain rfl : n = 0 := by omega
    obtain rfl : m = 0 := by omega
    split
    · exact tfirst0 _ _ _ (tpure _)
    · rw [if_pos (Nat.zero_mul _)]
      exact tpure _)
end
end Co
end Go.Proofs.Ytgeakpeodhhffaa
namespace Go.Proofs.Ytgeakpeodhhffaa
open Go Go.Conc
set_option linter.unusedVariables false
set_option linter.unusedSimpArgs false
namespace Co
section
variable {P : Program} {Bk : Nat → Prop}
theorem tund {α : Type} {t : TypeId} {d : TypeDesc} (h : P.underlying t = some d) {f : TypeDesc → Sem α} (hf : Tame P Bk (f d)) : Tame P Bk (underlying t >>= f) := by
  show Tame P Bk (Sem.bind (match P.underlying t with | some d => pure d | none => stuck "no such type") f)
  rw [h]
  exact hf
theorem tequal (t : TypeId) (x y : Value) : Tame P Bk (Op.equal t x y) := tequalIn _ _ _ _
theorem tbinInt (op : BinOp) (T : TypeId) (k k' : IntKind) (a b : Int) : Tame P Bk (binOp op T (.int k a) (.int k' b)) := by
  unfold binOp
  (repeat' (first | with_reducible exact tpure _ | with_reducible exact tstuck _ | with_reducible exact tunsup _ | with_reducible exact tgoPanic _ | with_reducible exact tshift _ _ _ _ _ | with_reducible exact tintArith _ _ _ _ | with_reducible exact tintDiv _ _ _ _ | with_reducible exact tintBits _ _ _ _ | with_reducible exact tintCmp _ _ _ | with_reducible exact tstringOp _ _ _ | with_reducible exact tequal _ _ _ | with_reducible exact tprogram | with_reducible exact tload _ _ | with_reducible exact tshape _ | with_reducible exact tfrozen _ | with_reducible exact tgetObj _ | with_reducible exact tnewObj _ | with_reducible exact tchoose _ | with_reducible exact tmark | with_reducible exact ttypeInfo _ | with_reducible exact tunderlying _ | with_reducible exact tsizeOf _ | with_reducible exact tzeroValue _ | with_reducible exact tisAgg _ | with_reducible exact tloadCells _ _ | with_reducible exact tloadVar _ _ | with_reducible exact tnewRow _ _ | with_reducible exact tnewVar _ _ | with_reducible exact telemOf _ | with_reducible exact tpart _ _ _ | with_reducible exact trtPanic _ | with_reducible exact tboundsPanic _ _ _ _ | with_reducible exact tasIntOf _ | with_reducible exact tasInt _ | with_reducible exact tasBool _ | with_reducible exact tasAgg _ | with_reducible exact tasAddr _ | with_reducible exact tsureAddr _ | with_reducible exact taskRoom _ | with_reducible exact tnoView _ | with_reducible exact tbehind _ | with_reducible exact tbyteOf _ | with_reducible exact tpartAt _ _ _ | with_reducible exact tfieldPlace _ _ | with_reducible exact tsameAddr _ _ | with_reducible exact tsamePointer _ _ | refine tb ?_ (fun _ => ?_) | refine tmap ?_ | split | dsimp only))
  all_goals (exfalso; simp_all; done)
theorem tbinStr (op : BinOp) (T : TypeId) (a b : ByteArray) : Tame P Bk (binOp op T (.string a) (.string b)) := by
  unfold binOp
  (repeat' (first | with_reducible exact tpure _ | with_reducible exact tstuck _ | with_reducible exact tunsup _ | with_reducible exact tgoPanic _ | with_reducible exact tshift _ _ _ _ _ | with_reducible exact tintArith _ _ _ _ | with_reducible exact tintDiv _ _ _ _ | with_reducible exact tintBits _ _ _ _ | with_reducible exact tintCmp _ _ _ | with_reducible exact tstringOp _ _ _ | with_reducible exact tequal _ _ _ | with_reducible exact tprogram | with_reducible exact tload _ _ | with_reducible exact tshape _ | with_reducible exact tfrozen _ | with_reducible exact tgetObj _ | with_reducible exact tnewObj _ | with_reducible exact tchoose _ | with_reducible exact tmark | with_reducible exact ttypeInfo _ | with_reducible exact tunderlying _ | with_reducible exact tsizeOf _ | with_reducible exact tzeroValue _ | with_reducible exact tisAgg _ | with_reducible exact tloadCells _ _ | with_reducible exact tloadVar _ _ | with_reducible exact tnewRow _ _ | with_reducible exact tnewVar _ _ | with_reducible exact telemOf _ | with_reducible exact tpart _ _ _ | with_reducible exact trtPanic _ | with_reducible exact tboundsPanic _ _ _ _ | with_reducible exact tasIntOf _ | with_reducible exact tasInt _ | with_reducible exact tasBool _ | with_reducible exact tasAgg _ | with_reducible exact tasAddr _ | with_reducible exact tsureAddr _ | with_reducible exact taskRoom _ | with_reducible exact tnoView _ | with_reducible exact tbehind _ | with_reducible exact tbyteOf _ | with_reducible exact tpartAt _ _ _ | with_reducible exact tfieldPlace _ _ | with_reducible exact tsameAddr _ _ | with_reducible exact tsamePointer _ _ | refine tb ?_ (fun _ => ?_) | refine tmap ?_ | split | dsimp only))
  all_goals (exfalso; simp_all; done)
theorem tbinEql (T : TypeId) (x y : Value) (h1 : ∀ k a, y ≠ .int k a) (h2 : ∀ s, y ≠ .string s) (h3 : ∀ k a, y ≠ .float k a) (h4 : ∀ k a b, y ≠ .complex k a b) : Tame P Bk (binOp .eql T x y) := by
  unfold binOp
  split
  all_goals first | (with_reducible exact tb (tequal _ _ _) fun _ => tpure _) | (exfalso; simp_all; done)
theorem tbinNeq (T : TypeId) (x y : Value) (h1 : ∀ k a, y ≠ .int k a) (h2 : ∀ s, y ≠ .string s) (h3 : ∀ k a, y ≠ .float k a) (h4 : ∀ k a b, y ≠ .complex k a b) : Tame P Bk (binOp .neq T x y) := by
  unfold binOp
  split
  all_goals first | (with_reducible exact tb (tequal _ _ _) fun _ => tpure _) | (exfalso; simp_all; done)
theorem tconvInt {S T : TypeId} {j : IntKind} (h : P.underlying T = some (.int j)) (k : IntKind) (n : Int) : Tame P Bk (convert S T (.int k n)) := by
  unfold convert
  refine tb (tunderlying _) fun d => tund h ?_
  split
  all_goals first | (unfold Conv.intToInt; exact tpure _) | (exfalso; simp_all; done)
/-- what an operation may list: nothing of the library's words; it writes in Bk alone -/
def EvK (Bk : Nat → Prop) (e : Event) : Prop := (∀ m, e.loc = .mark m → Neutral m) ∧ (e.write = true → ∃ a, e.loc = .cell a ∧ Bk a.block)
theorem evk_r (a : Addr) (s : Bool) : EvK Bk ⟨.cell a, false, s⟩ := ⟨fun _ h => (by cases h), fun h => (by cases h)⟩
theorem evk_o (r : Nat) (s : Bool) : EvK Bk ⟨.obj r, false, s⟩ := ⟨fun _ h => (by cases h), fun h => (by cases h)⟩
theorem evk_w {a : Addr} (h : Bk a.block) (s : Bool) : EvK Bk ⟨.cell a, true, s⟩ := ⟨fun _ h => (by cases h), fun _ => ⟨a, rfl, h⟩⟩
theorem evk_m {m : Mark} (h : Neutral m) : EvK Bk ⟨.mark m, false, true⟩ := ⟨fun m' e => (by cases e; exact h), fun h => (by cases h)⟩
theorem ev_push {es : Array Event} {x e : Event} (h : e ∈ es.push x) (hx : EvK Bk x) : e ∈ es ∨ EvK Bk e := by
  rcases Array.mem_push.1 h with h | rfl
  · exact .inl h
  · exact .inr hx
theorem ev_app {es ts : Array Event} {e : Event} (h : e ∈ es ++ ts) (hx : ∀ x ∈ ts, EvK Bk x) : e ∈ es ∨ EvK Bk e := by
  rcases Array.mem_append.1 h with h | h
  · exact .inl h
  · exact .inr (hx e h)
set_option maxHeartbeats 4000000 in
theorem tame_run {α : Type} : ∀ (s : Sem α), Tame P Bk s → ∀ (w : World) (es : Array Event), (∀ b, Bk b → ∃ c T f, w.heap[b]? = some (.cells c T f)) → ∀ a w', s.run P w = .ok a w' →
    (∀ e ∈ (s.runT P w es).2, e ∈ es ∨ EvK Bk e) ∧ (∀ k, k < w.heap.size → ¬ Bk k → w'.heap[k]? = w.heap[k]?) ∧ w.heap.size ≤ w'.heap.size := by
  intro s
  have trans : ∀ {e : Event} {es es' : Array Event}, (e ∈ es' ∨ EvK Bk e) → (∀ e ∈ es', e ∈ es ∨ EvK Bk e) → e ∈ es ∨ EvK Bk e := fun h h' => h.elim (h' _) .inr
  induction s with
  | pure a =>
    intro _ w es _ a' w' h
    obtain ⟨rfl, rfl⟩ : a = a' ∧ w = w' := by simpa [Sem.run] using h
    exact ⟨fun e he => .inl he, fun _ _ _ => rfl, Nat.le_refl _⟩
  | halt h => intro _ w es _ a' w' hh; simp [Sem.run] at hh
  | load m a k ih =>
    intro ht w es hB a' w' h
    simp only [Sem.run] at h
    simp only [Sem.runT]
    cases hc : w.cell? a with
    | some v =>
      rw [hc] at h
      obtain ⟨h1, h2, h3⟩ := ih v (ht v) w (es.push ⟨.cell a, false, m == Mode.atomic⟩) hB a' w' h
      exact ⟨fun e he => trans (h1 e he) (fun e he => ev_push he (evk_r _ _)), h2, h3⟩
    | none =>
      rw [hc] at h
      dsimp only at h ⊢
      cases hf : w.farLoad P a (m == Mode.atomic) with
      | ok r =>
        rw [hf] at h
        obtain ⟨v, tl⟩ := r
        obtain ⟨h1, h2, h3⟩ := ih v (ht v) w (es ++ tl.toArray.map (⟨.cell ·, false, m == Mode.atomic⟩)) hB a' w' h
        refine ⟨fun e he => trans (h1 e he) (fun e he => ev_app he (fun x hx => ?_)), h2, h3⟩
        obtain ⟨y, _, rfl⟩ := Array.mem_map.1 hx
        exact evk_r _ _
      | error e => rw [hf] at h; cases h
  | store m a v k ih =>
    intro ht w es hB a' w' h
    obtain ⟨hb, ht⟩ := ht
    obtain ⟨c, T, f, hcell⟩ := hB _ hb
    have key : ∀ (hrun : (match w.cell? a with
        | some _ => if w.frozen? a then Result.halt (.unsupported (.unsafePointer "a write to bytes that a string shares")) w else k.run P (w.setCell a v)
        | none => match w.farStore P a v (m == Mode.atomic) with
          | .ok (w, _) => k.run P w
          | .error h => .halt h w) = .ok a' w'), w.cell? a ≠ none ∧ w.frozen? a = false ∧ k.run P (w.setCell a v) = .ok a' w' := by
      intro h
      cases hc : w.cell? a with
      | some u =>
        rw [hc] at h
        dsimp only at h
        cases hz : w.frozen? a with
        | true => rw [hz] at h; simp at h
        | false => rw [hz] at h; exact ⟨by simp, rfl, by simpa using h⟩
      | none =>
        rw [hc] at h
        simp only [World.farStore, hcell] at h
        cases h
    have main : w.cell? a ≠ none ∧ w.frozen? a = false ∧ k.run P (w.setCell a v) = .ok a' w' := by
      cases v <;> first | (simp [Sem.run] at h; done) | (simp only [Sem.run] at h; exact key h)
    obtain ⟨hc, hz, hr⟩ := main
    have hB' : ∀ b, Bk b → ∃ c T f, (w.setCell a v).heap[b]? = some (.cells c T f) := by
      intro b hb'
      obtain ⟨c1, T1, f1, h1⟩ := hB b hb'
      by_cases e : b = a.block
      · subst e
        exact ⟨_, _, _, by simp only [World.setCell, Array.getElem?_modify, if_pos rfl, h1, Option.map_some]; rfl⟩
      · have e' : ¬ a.block = b := fun h => e h.symm
        exact ⟨c1, T1, f1, by simp only [World.setCell, Array.getElem?_modify, if_neg e']; exact h1⟩
    obtain ⟨h1, h2, h3⟩ := ih ht (w.setCell a v) (es.push ⟨.cell a, true, m == Mode.atomic⟩) hB' a' w' hr
    have hsz : (w.setCell a v).heap.size = w.heap.size := by simp [World.setCell]
    refine ⟨fun e he => ?_, fun j hj hn => ?_, by omega⟩
    · have he' : e ∈ (k.runT P (w.setCell a v) (es.push ⟨.cell a, true, m == Mode.atomic⟩)).2 := by
        cases hcc : w.cell? a with
        | none => exact absurd hcc hc
        | some u => cases v <;> first | (simp [Sem.run] at h; done) | (simp only [Sem.runT, hcc, hz] at he; exact he)
      exact trans (h1 e he') (fun e he => ev_push he (evk_w hb _))
    · rw [h2 j (by omega) hn]
      simp only [World.setCell, Array.getElem?_modify]
      have e' : ¬ a.block = j := fun e => hn (e ▸ hb)
      rw [if_neg e']
  | new o k ih =>
    intro ht w es hB a' w' h
    simp only [Sem.run] at h
    simp only [Sem.runT]
    have hlt : ∀ b, Bk b → b < w.heap.size := fun b hb => by
      obtain ⟨c, T, f, h⟩ := hB b hb
      rcases Nat.lt_or_ge b w.heap.size with h' | h'
      · exact h'
      · rw [Array.getElem?_eq_none h'] at h; cases h
    have hold : ∀ j, j < w.heap.size → (w.heap.push o)[j]? = w.heap[j]? := fun j hj => by rw [Array.getElem?_push, if_neg (by omega)]
    obtain ⟨h1, h2, h3⟩ := ih _ (ht _) { w with heap := w.heap.push o } es (fun b hb => by obtain ⟨c, T, f, h⟩ := hB b hb; exact ⟨c, T, f, (hold b (hlt b hb)).trans h⟩) a' w' h
    refine ⟨h1, fun j hj hn => ?_, ?_⟩
    · rw [h2 j (by simp; omega) hn]; exact hold j hj
    · have : (w.heap.push o).size = w.heap.size + 1 := by simp
      have h3' : (w.heap.push o).size ≤ w'.heap.size := h3
      omega
  | shape r k ih => intro ht w es hB a' w' h; exact ih _ (ht _) w es hB a' w' h
  | freeze a n k _ => intro ht; exact ht.elim
  | frozen a k ih => intro ht w es hB a' w' h; exact ih _ (ht _) w es hB a' w' h
  | getObj r k ih =>
    intro ht w es hB a' w' h
    simp only [Sem.run] at h
    simp only [Sem.runT]
    cases hr : w.heap[r]? with
    | none => rw [hr] at h; cases h
    | some o =>
      rw [hr] at h
      cases o
      case cells => cases h
      all_goals
        obtain ⟨h1, h2, h3⟩ := ih _ (ht _) w (es.push ⟨.obj r, false, Obj.isChan _⟩) hB a' w' h
        exact ⟨fun e he => trans (h1 e he) (fun e he => ev_push he (evk_o _ _)), h2, h3⟩
  | setObj r o k _ => intro ht; exact ht.elim
  | choose q k ih =>
    intro ht w es hB a' w' h
    simp only [Sem.run] at h
    simp only [Sem.runT]
    split
    · rename_i hq
      rw [if_pos hq] at h
      exact ih _ (ht _) w es hB a' w' h
    · rename_i hq
      rw [if_neg hq] at h
      exact ih _ (ht _) { w with drawn := w.drawn + 1 } es hB a' w' h
  | sys c k _ => intro ht; exact ht.elim
  | program k ih => intro ht w es hB a' w' h; exact ih _ ht w es hB a' w' h
  | mark m k ih =>
    intro ht w es hB a' w' h
    obtain ⟨h1, h2, h3⟩ := ih ht.2 w (es.push ⟨.mark m, false, true⟩) hB a' w' h
    exact ⟨fun e he => trans (h1 e he) (fun e he => ev_push he (evk_m ht.1)), h2, h3⟩
end
end Co
end Go.Proofs.Ytgeakpeodhhffaa
namespace Go.Proofs.Ytgeakpeodhhffaa
open Go Go.Conc
set_option linter.unusedVariables false
set_option linter.unusedSimpArgs false
namespace Co
/-- the others turn the blocks H alone, and the count of draws -/
structure Aside (H : Nat → Prop) (w w₁ : World) : Prop where
  os : w₁.os = w.os
  tape : w₁.tape = w.tape
  output : w₁.output = w.output
  size : w₁.heap.size = w.heap.size
  blk : ∀ k, ¬ H k → w₁.heap[k]? = w.heap[k]?
theorem Aside.refl (H : Nat → Prop) (w : World) : Aside H w w := ⟨rfl, rfl, rfl, rfl, fun _ _ => rfl⟩
theorem Aside.trans {H : Nat → Prop} {a b c : World} (h : Aside H a b) (h' : Aside H b c) : Aside H a c :=
  ⟨h'.os.trans h.os, h'.tape.trans h.tape, h'.output.trans h.output, h'.size.trans h.size, fun k hk => (h'.blk k hk).trans (h.blk k hk)⟩
theorem Aside.drew (H : Nat → Prop) (w : World) : Aside H w { w with drawn := w.drawn + 1 } := ⟨rfl, rfl, rfl, rfl, fun _ _ => rfl⟩
/-- what a step may list: the blocks Pt are not written -/
def EvP (Pt : Nat → Prop) (e : Event) : Prop := (∀ m, e.loc = .mark m → Neutral m) ∧ (e.write = true → ∃ a, e.loc = .cell a ∧ ¬ Pt a.block)
/-- what a step does -/
structure Done (Pt : Nat → Prop) (w w' : World) (es : Array Event) : Prop where
  keep : ∀ k, Pt k → w'.heap[k]? = w.heap[k]?
  evs : ∀ e ∈ es, EvP Pt e
theorem Done.idle (Pt : Nat → Prop) (w : World) : Done Pt w w #[] := ⟨fun _ _ => rfl, by simp⟩
/-- whether walks of one goroutine alone are let in (no company then) -/
def Lone : Prop := True
theorem fn_lone : Lone := True.intro
/-- places from which all goes well -/
structure Sys (P : Program) (H Pt : Nat → Prop) where
  Rl : World → World → Prop
  Run : Goroutine → World → Prop
  sub : ∀ {w w₁}, Rl w w₁ → Aside H w w₁
  rely : ∀ {g w w₁}, Run g w → Rl w w₁ → Run g w₁
  eq : Lone → ∀ {w w₁}, Rl w w₁ → w₁ = w
  steps : Lone → ∀ {g g' w w'}, Steps P (solo g w) (solo g' w') → Run g' w' → Run g w
  step : ∀ {g w}, g.status = .running → (∀ w₁, Rl w w₁ → ∃ g' w' es, stepG P true g w₁ = .go g' w' es ∧ (¬ Lone → Done Pt w₁ w' es) ∧ Run g' w') → Run g w
section
variable {P : Program} {H Pt : Nat → Prop} (M : Sys P H Pt)
theorem Sys.go {g g' : Goroutine} {w : World} (hs : g.status = .running) (h : ∀ w₁, stepG P true g w₁ = .go g' w₁) (h' : M.Run g' w) : M.Run g w :=
  M.step hs fun w₁ h₁ => ⟨g', w₁, #[], h w₁, fun _ => Done.idle _ _, M.rely h' h₁⟩
/-- where the walk goes on -/
def Arr (b : Frame) (k : List Item) (cs : List Frame) : Exit → Act → World → Prop
  | .normal, a, w => M.Run (G (b.at a k) cs) w
  | .exit id, a, w => ∃ k', exitTo id k = some k' ∧ M.Run (G (b.at a k') cs) w
  | .ret, a, w => ∀ todo, M.Run (G { b.at a todo with mode := .returning } cs) w
  | _, _, _ => False
theorem Arr.push {b : Frame} {x : Item} {k : List Item} {cs : List Frame} {e : Exit} {a : Act} {w : World} (hx : x.plain = true) (he : e ≠ .normal) (h : Arr M b k cs e a w) : Arr M b (x :: k) cs e a w := by
  cases e with
  | normal => exact absurd rfl he
  | exit id => obtain ⟨k', hk, hg⟩ := h; exact ⟨k', by cases x <;> simp_all [exitTo, Item.plain], hg⟩
  | ret => exact h
  | goto l => exact h
  | panic ch => exact h
  | outgrown => exact h
end
/-- the judgement on code -/
def wpK (P : Program) (H Pt : Nat → Prop) (c : Code) (Q : Exit → Act → World → Prop) (a : Act) (w : World) : Prop :=
  ∀ (M : Sys P H Pt) (b : Frame) (k : List Item) (cs : List Frame), b.kind ≠ .early → (∀ e a' w', Q e a' w' → Arr M b k cs e a' w') → M.Run (G (b.at a (.code c :: k)) cs) w
/-- .. on one operation of a region -/
def OpK (P : Program) (H Pt : Nat → Prop) (o : Oper) (a : Act) (w : World) (K : Act → World → Prop) : Prop :=
  ∀ (M : Sys P H Pt) (b : Frame) (ops : Array Oper) (i : Nat) (rest : List Nat) (k : List Item) (cs : List Frame), b.kind ≠ .early → ops[i]? = some o → Region.wanted o (yielded ops a.tmps) = true →
    (∀ a' w', K a' w' → M.Run (G (b.at a' (.inRegion ops rest :: k)) cs) w') → M.Run (G (b.at a (.inRegion ops (i :: rest) :: k)) cs) w
/-- .. on the operations that are still to come -/
def OpsK (P : Program) (H Pt : Nat → Prop) (ops : Array Oper) (todo : List Nat) (Q : Exit → Act → World → Prop) (a : Act) (w : World) : Prop :=
  ∀ (M : Sys P H Pt) (b : Frame) (k : List Item) (cs : List Frame), b.kind ≠ .early → (∀ e a' w', Q e a' w' → Arr M b k cs e a' w') → M.Run (G (b.at a (.inRegion ops todo :: k)) cs) w
section
variable {P : Program} {H Pt : Nat → Prop} {Q : Exit → Act → World → Prop} {a : Act} {w : World}
theorem wpK_mono {c : Code} {Q' : Exit → Act → World → Prop} (h : wpK P H Pt c Q a w) (hq : ∀ e a w, Q e a w → Q' e a w) : wpK P H Pt c Q' a w :=
  fun M b k cs hk hc => h M b k cs hk fun e a' w' q => hc e a' w' (hq e a' w' q)
theorem wpK_skip (h : Q .normal a w) : wpK P H Pt .skip Q a w := fun M b k cs _ hc => M.go rfl (fun _ => stepG_skip) (hc _ _ _ h)
theorem wpK_label {l : Nat} (h : Q .normal a w) : wpK P H Pt (.label l) Q a w := fun M b k cs _ hc => M.go rfl (fun _ => stepG_label) (hc _ _ _ h)
theorem wpK_ret (h : Q .ret a w) : wpK P H Pt .ret Q a w := fun M b k cs _ hc => M.go rfl (fun _ => stepG_ret') (hc _ _ _ h _)
theorem wpK_exit {id : Nat} (h : Q (.exit id) a w) : wpK P H Pt (.exit id) Q a w := fun M b k cs _ hc => by
  obtain ⟨k', hk', hg⟩ := hc _ _ _ h
  exact M.go rfl (fun _ => stepG_exit hk') hg
theorem wpK_seq {x y : Code} (h : wpK P H Pt x (Exit.then (wpK P H Pt y Q) Q) a w) : wpK P H Pt (.seq x y) Q a w := by
  intro M b k cs hk hc
  refine M.go rfl (fun _ => stepG_seq) (h M b (.code y :: k) cs hk fun e a' w' q => ?_)
  cases e with
  | normal => exact q M b k cs hk hc
  | exit id => exact (hc _ _ _ q).push M rfl (by simp)
  | ret => exact (hc _ _ _ q).push M (x := .code y) rfl (by simp)
  | goto l => exact hc _ _ _ q
  | panic ch => exact hc _ _ _ q
  | outgrown => exact hc _ _ _ q
theorem wpK_cond_split {c : Operand} {x y : Code} {t : Bool} (hc : a.eval c = .bool t) (ht : t = true → wpK P H Pt x Q a w) (hf : t = false → wpK P H Pt y Q a w) : wpK P H Pt (.cond c x y) Q a w := by
  intro M b k cs hk hq
  refine M.go rfl (fun _ => stepG_cond hc) ?_
  cases t with
  | true => exact ht rfl M b k cs hk hq
  | false => exact hf rfl M b k cs hk hq
theorem wpK_block {id : Nat} {c : Code} (h : wpK P H Pt c (Exit.inBlock id Q) a w) : wpK P H Pt (.block id c) Q a w := by
  intro M b k cs hk hc
  refine M.go rfl (fun _ => stepG_block) (h M b (.inBlock id :: k) cs hk fun e a' w' q => ?_)
  cases e with
  | normal => exact M.go rfl (fun _ => stepG_inBlock) (hc _ _ _ q)
  | exit id' =>
    by_cases hid : id' = id
    · simp only [Exit.inBlock, hid, if_true] at q
      exact ⟨k, by simp [exitTo, hid], hc _ _ _ q⟩
    · simp only [Exit.inBlock, hid, if_false] at q
      obtain ⟨k', hk', hg⟩ := hc _ _ _ q
      have : (id == id') = false := by simp; exact fun h => hid h.symm
      exact ⟨k', by simp [exitTo, this, hk'], hg⟩
  | ret => exact hc _ _ _ q
  | goto l => exact hc _ _ _ q
  | panic ch => exact hc _ _ _ q
  | outgrown => exact hc _ _ _ q
theorem stepG_scope {main : Bool} {b : Frame} {k : List Item} {cs : List Frame} {c : Code} : stepG P main (G (b.at a (.code (.scope c) :: k)) cs) w = .go (G (b.at a (.code c :: .inScope c :: k)) cs) w := by simp [G, stepG, stepG.exec, Frame.at]
theorem stepG_inScope {main : Bool} {b : Frame} {k : List Item} {cs : List Frame} {c : Code} : stepG P main (G (b.at a (.inScope c :: k)) cs) w = .go (G (b.at a k) cs) w := by simp [G, stepG, stepG.exec, Frame.at]
theorem wpK_scope {c : Code} (h : wpK P H Pt c (Exit.noGoto Q) a w) : wpK P H Pt (.scope c) Q a w := by
  intro M b k cs hk hc
  refine M.go rfl (fun _ => stepG_scope) (h M b (.inScope c :: k) cs hk fun e a' w' q => ?_)
  cases e with
  | normal => exact M.go rfl (fun _ => stepG_inScope) (hc _ _ _ q)
  | exit id => obtain ⟨k', hk', hg⟩ := hc _ _ _ q; exact ⟨k', by simp [exitTo, hk'], hg⟩
  | ret => exact hc _ _ _ q
  | goto l => exact q.elim
  | panic ch => exact hc _ _ _ q
  | outgrown => exact hc _ _ _ q
theorem wpK_loop {c : Code} (I : Nat → Act → World → Prop) (n₀ : Nat) (h₀ : I n₀ a w) (round : ∀ n a w, I n a w → wpK P H Pt c (Exit.then (fun a' w' => ∃ n', n' < n ∧ I n' a' w') Q) a w) : wpK P H Pt (.loop c) Q a w := by
  intro M b k cs hk hc
  have key : ∀ N n, n ≤ N → ∀ a w, I n a w → M.Run (G (b.at a (.code c :: .inLoop c :: k)) cs) w := by
    intro N
    induction N with
    | zero =>
      intro n hn a w hI
      refine round n a w hI M b (.inLoop c :: k) cs hk fun e a' w' q => ?_
      cases e with
      | normal => obtain ⟨n', h1, _⟩ := q; omega
      | exit id => exact (hc _ _ _ q).push M rfl (by simp)
      | ret => exact (hc _ _ _ q).push M (x := .inLoop c) rfl (by simp)
      | goto l => exact hc _ _ _ q
      | panic ch => exact hc _ _ _ q
      | outgrown => exact hc _ _ _ q
    | succ N ih =>
      intro n hn a w hI
      refine round n a w hI M b (.inLoop c :: k) cs hk fun e a' w' q => ?_
      cases e with
      | normal => obtain ⟨n', h1, h2⟩ := q; exact M.go rfl (fun _ => stepG_inLoop) (ih n' (by omega) a' w' h2)
      | exit id => exact (hc _ _ _ q).push M rfl (by simp)
      | ret => exact (hc _ _ _ q).push M (x := .inLoop c) rfl (by simp)
      | goto l => exact hc _ _ _ q
      | panic ch => exact hc _ _ _ q
      | outgrown => exact hc _ _ _ q
  exact M.go rfl (fun _ => stepG_loop) (key n₀ n₀ (Nat.le_refl _) a w h₀)
/-- an operation that yields a value, or nothing -/
theorem opK_of {o : Oper} {K : Act → World → Prop} (h : ∀ w₁, Aside H w w₁ → ∃ nx w', (execOp a.eval o).run P w₁ = .ok nx w' ∧ Done Pt w₁ w' ((execOp a.eval o).events P w₁ #[]) ∧ (match nx with | .value v => K (a.put o.dst v) w' | .skip => K (a.put o.dst undef) w' | _ => False)) : OpK P H Pt o a w K := by
  intro M b ops i rest k cs hk ho hw hc
  refine M.step rfl fun w₁ h₁ => ?_
  obtain ⟨nx, w', hr, hd, hK⟩ := h w₁ (M.sub h₁)
  have hd' : Done Pt w₁ w' (listed P b.fn a o w₁) := ⟨hd.keep, fun e he => hd.evs e (mem_listed he)⟩
  cases nx with
  | value v => exact ⟨_, w', _, stepG_value ho hw hk hr, fun _ => hd', hc _ _ hK⟩
  | skip => exact ⟨_, w', _, stepG_none ho hw hk hr, fun _ => hd', hc _ _ hK⟩
  | _ => exact hK.elim
/-- the operations of a list -/
def wpListK (P : Program) (H Pt : Nat → Prop) (ops : Array Oper) (Q : Exit → Act → World → Prop) : List Oper → Act → World → Prop
  | [], a, w => Q .normal a w
  | o :: rest, a, w => if Region.wanted o (yielded ops a.tmps) then OpK P H Pt o a w (wpListK P H Pt ops Q rest) else wpListK P H Pt ops Q rest (a.put o.dst undef) w
theorem listK {ops : Array Oper} : ∀ (l : List Oper) (k0 : Nat), (∀ j, l[j]? = ops[k0 + j]?) → ∀ (a : Act) (w : World), wpListK P H Pt ops Q l a w → OpsK P H Pt ops (List.range' k0 l.length) Q a w
  | [], k0, _, a, w, h => fun M b k cs _ hc => M.go rfl (fun _ => stepG_region_end) (hc _ _ _ h)
  | o :: l, k0, hl, a, w, h => by
    have h0 : ops[k0]? = some o := by simpa using (hl 0).symm
    have hl' : ∀ j, l[j]? = ops[k0 + 1 + j]? := fun j => by have := hl (j + 1); simpa [Nat.add_assoc, Nat.add_comm 1 j] using this
    intro M b k cs hk hc
    rw [List.length_cons, List.range'_succ]
    unfold wpListK at h
    split at h
    · rename_i hw
      exact h M b ops k0 _ k cs hk h0 hw fun a' w' hK => listK l (k0 + 1) hl' a' w' hK M b k cs hk hc
    · rename_i hw
      exact M.go rfl (fun _ => stepG_unwanted h0 (by simpa using hw)) (listK l (k0 + 1) hl' _ _ h M b k cs hk hc)
theorem wpK_region {id : Nat} {l : List Oper} (h : wpListK P H Pt l.toArray Q l a w) : wpK P H Pt (.region id l.toArray false) Q a w := fun M b k cs hk hc => by
  refine M.go rfl (fun _ => stepG_region) ?_
  have := listK (ops := l.toArray) l 0 (fun j => by simp) a w h M b k cs hk hc
  rwa [show List.range l.toArray.size = List.range' 0 l.length by simp [List.range_eq_range']]
/-- in whatever order -/
def wpOpK (P : Program) (H Pt : Nat → Prop) (ops : Array Oper) (i : Nat) (K : Act → World → Prop) (a : Act) (w : World) : Prop :=
  match ops[i]? with
  | none => K a w
  | some o => if Region.wanted o (yielded ops a.tmps) then OpK P H Pt o a w K else K (a.put o.dst undef) w
def wpAnyK (P : Program) (H Pt : Nat → Prop) (md : Region.Mode) (ops : Array Oper) (Q : Exit → Act → World → Prop) : Nat → Array Bool → Act → World → Prop
  | 0, listed, a, w => Region.ready md ops listed = [] ∧ Q .normal a w
  | fuel + 1, listed, a, w => (Region.ready md ops listed = [] → Q .normal a w) ∧ ∀ i ∈ Region.ready md ops listed, wpOpK P H Pt ops i (wpAnyK P H Pt md ops Q fuel (listed.setIfInBounds i true)) a w
theorem stepG_absent {main : Bool} {b : Frame} {k : List Item} {cs : List Frame} {ops : Array Oper} {i : Nat} {rest : List Nat} (h : ops[i]? = none) : stepG P main (G (b.at a (.inRegion ops (i :: rest) :: k)) cs) w = .go (G (b.at a (.inRegion ops rest :: k)) cs) w := by
  simp [G, stepG, stepG.exec, Frame.at, h, Frame.finish]
theorem anyK_sound {md : Region.Mode} {ops : Array Oper} : ∀ (fuel t : Nat) (listed : Array Bool) (a : Act) (w : World), wpAnyK P H Pt md ops Q fuel listed a w → OpsK P H Pt ops (Region.linearise.go md ops fuel t listed []) Q a w := by
  intro fuel
  induction fuel with
  | zero => intro t listed a w h M b k cs hk hc; simp only [Region.linearise.go, List.reverse_nil]; exact M.go rfl (fun _ => stepG_region_end) (hc _ _ _ h.2)
  | succ fuel ih =>
    intro t listed a w h
    obtain ⟨h₀, h₁⟩ := h
    simp only [Region.linearise.go]
    change OpsK P H Pt ops (match (Region.ready md ops listed)[t % (Region.ready md ops listed).length]? with
      | some i => Region.linearise.go md ops fuel (t / (Region.ready md ops listed).length) (listed.setIfInBounds i true) [i]
      | none => [].reverse) Q a w
    cases hi : (Region.ready md ops listed)[t % (Region.ready md ops listed).length]? with
    | none =>
      have hnil : Region.ready md ops listed = [] := by
        cases hr : Region.ready md ops listed with
        | nil => rfl
        | cons x xs =>
          rw [hr] at hi
          have hlt : t % (x :: xs).length < (x :: xs).length := Nat.mod_lt _ (by simp)
          rw [List.getElem?_eq_none_iff] at hi
          omega
      exact fun M b k cs hk hc => M.go rfl (fun _ => stepG_region_end) (hc _ _ _ (h₀ hnil))
    | some i =>
      simp only []
      rw [linearise_go_acc, List.reverse_singleton, List.singleton_append]
      have h2 := h₁ i (List.mem_of_getElem? hi)
      unfold wpOpK at h2
      intro M b k cs hk hc
      cases ho : ops[i]? with
      | none => rw [ho] at h2; exact M.go rfl (fun _ => stepG_absent ho) (ih _ _ _ _ h2 M b k cs hk hc)
      | some o =>
        rw [ho] at h2
        dsimp only at h2
        split at h2
        · rename_i hw; exact h2 M b ops i _ k cs hk ho hw fun a' w' hK => ih _ _ _ _ hK M b k cs hk hc
        · rename_i hw; exact M.go rfl (fun _ => stepG_unwanted ho (by simpa using hw)) (ih _ _ _ _ h2 M b k cs hk hc)
theorem wpK_draw {id : Nat} {ops : Array Oper} (hm : P.follows .mixedOrders = true) (h : ∀ w₁, Aside H w w₁ → wpAnyK P H Pt .any ops Q ops.size (Array.replicate ops.size false) a w₁) : wpK P H Pt (.region id ops true) Q a w := by
  intro M b k cs hk hc
  refine M.step rfl fun w₁ h₁ => ?_
  refine ⟨_, _, _, stepG_region_draw, fun _ => ⟨fun _ _ => rfl, by simp⟩, ?_⟩
  simp only [Region.schedule, hm, Bool.true_or, if_true]
  exact anyK_sound _ _ _ _ _ (h _ ((M.sub h₁).trans (Aside.drew H w₁))) M b k cs hk hc
/-- a function at its return -/
structure LeavesK (P : Program) (Rl : World → World → Prop) (fr : Frame) (w : World) (R : Ending → World → Prop) : Prop where
  mode : fr.mode = .returning
  defers : fr.defers = []
  kind : fr.kind = .normal
  fn : ∃ fn, P.funcs[fr.fn]? = some fn ∧ ∀ w₁, Rl w w₁ → ∃ v, (results fn fr.tmps).run P w₁ = .ok v w₁ ∧ R (.returned v) w₁
/-- a call in company -/
def CallsK (P : Program) (H Pt : Nat → Prop) (f : FuncId) (args : Array Value) (w : World) (R : Ending → World → Prop) : Prop :=
  ∀ (M : Sys P H Pt) (cs : List Frame), (∀ fr w', fr.fn = f → LeavesK P M.Rl fr w' R → M.Run (G fr cs) w') → M.Run (G (Frame.enter P f args .normal) cs) w
theorem CallsK.mono {f : FuncId} {args : Array Value} {R R' : Ending → World → Prop} (h : CallsK P H Pt f args w R) (hr : ∀ v w', R (.returned v) w' → R' (.returned v) w') : CallsK P H Pt f args w R' :=
  fun M cs hc => h M cs fun fr w' h1 h2 => hc fr w' h1 ⟨h2.mode, h2.defers, h2.kind, let ⟨fn, h3, h4⟩ := h2.fn; ⟨fn, h3, fun w₁ hw => let ⟨v, h5, h6⟩ := h4 w₁ hw; ⟨v, h5, hr _ _ h6⟩⟩⟩
/-- a walk alone serves where nobody else is -/
theorem callsK_of_calls (hl : Lone) {f : FuncId} {args : Array Value} {R : Ending → World → Prop} (h : Calls P f args w fun e w' => ∃ v, e = .returned v ∧ R (.returned v) w') : CallsK P H Pt f args w R := by
  intro M cs hc
  obtain ⟨e, w', fr, ⟨v, rfl, hR⟩, h1, h2, hm, hd, hk, fn, hf, hr⟩ := h cs
  exact M.steps hl h1 (hc fr w' h2 ⟨hm, hd, hk, fn, hf, fun w₁ hw => by obtain rfl := M.eq hl hw; exact ⟨v, hr, hR⟩⟩)
end
end Co
end Go.Proofs.Ytgeakpeodhhffaa
namespace Go.Proofs.Ytgeakpeodhhffaa
open Go Go.Conc
set_option linter.unusedVariables false
set_option linter.unusedSimpArgs false
namespace Co
section
variable {P : Program} {H Pt : Nat → Prop} {a : Act} {w : World}
theorem tresults {Bk : Nat → Prop} (fn : Func) (tmps : Array Value) : Tame P Bk (results fn tmps) := by
  unfold results
  refine tb (tmapM (fun x => ?_) _) fun _ => tpure _
  split
  · exact tpure _
  · exact tb (tasAddr _) fun _ => tloadVar _ _
theorem evK_P {e : Event} {Bk : Nat → Prop} (h : EvK Bk e) (hb : ∀ b, Bk b → ¬ Pt b) : EvP Pt e := ⟨h.1, fun hw => let ⟨a, h1, h2⟩ := h.2 hw; ⟨a, h1, hb _ h2⟩⟩
/-- what a tame operation does -/
theorem tame_done {α : Type} {Bk : Nat → Prop} {s : Sem α} (ht : Tame P Bk s) (hB : ∀ b, Bk b → ¬ Pt b ∧ ∃ c T f, w.heap[b]? = some (.cells c T f)) (hlt : ∀ k, Pt k → k < w.heap.size) {x : α} {w' : World} (h : s.run P w = .ok x w') : Done Pt w w' (s.events P w #[]) := by
  obtain ⟨h1, h2, _⟩ := tame_run s ht w #[] (fun b hb => (hB b hb).2) x w' h
  refine ⟨fun k hk => h2 k (hlt k hk) (fun hb => (hB k hb).1 hk), fun e he => ?_⟩
  rcases h1 e he with h | h
  · simp at h
  · exact evK_P h (fun b hb => (hB b hb).1)
def bodyK (P : Program) (H : Nat → Prop) (fn : Func) (R : Ending → World → Prop) : Exit → Act → World → Prop
  | .normal, a, w | .ret, a, w => a.defers = [] ∧ ∀ w₁, Aside H w w₁ → ∃ v, (results fn a.tmps).run P w₁ = .ok v w₁ ∧ R (.returned v) w₁
  | _, _, _ => False
theorem callsK_of {f : FuncId} {fn : Func} {c : Code} {args : Array Value} {R : Ending → World → Prop} (hf : P.funcs[f]? = some fn) (hb : fn.body = some c)
    (h : wpK P H Pt c (bodyK P H fn R) { tmps := args ++ Array.replicate (fn.ntmps - args.size) undef, defers := [] } w) : CallsK P H Pt f args w R := by
  intro M cs hc
  rw [enter_at args hf hb]
  refine h M (base f) [] cs (by simp [base]) fun e a' w' q => ?_
  cases e with
  | normal => exact M.go rfl (fun _ => stepG_end) (hc _ _ rfl ⟨rfl, q.1, rfl, fn, hf, fun w₁ hw => q.2 w₁ (M.sub hw)⟩)
  | ret => exact fun todo => hc _ _ rfl ⟨rfl, q.1, rfl, fn, hf, fun w₁ hw => q.2 w₁ (M.sub hw)⟩
  | exit id => exact q.elim
  | goto l => exact q.elim
  | panic ch => exact q.elim
  | outgrown => exact q.elim
/-- the step back to the caller -/
theorem leaves_step {Rl : World → World → Prop} {fr c : Frame} {cs : List Frame} {R : Ending → World → Prop} (h : LeavesK P Rl fr w R) {w₁ : World} (hw : Rl w w₁) (main : Bool) : ∃ v es, stepG P main (G fr (c :: cs)) w₁ = .go (G (c.finish v) cs) w₁ es ∧ (∀ e ∈ es, EvP Pt e) ∧ R (.returned v) w₁ := by
  obtain ⟨fn, hf, hr⟩ := h.fn
  obtain ⟨v, h1, h2⟩ := hr w₁ hw
  refine ⟨v, seen P fr.fn ((results fn fr.tmps).events P w₁ #[]), ?_, fun e he => ?_, h2⟩
  · simp [G, stepG, unwind, doReturn, h.mode, h.defers, h.kind, hf, h1, Sem.runT_eq, GStep.after]
  · have := (tame_run (Bk := fun _ => False) _ (tresults fn fr.tmps) w₁ #[] (fun _ h => h.elim) v w₁ h1).1 e (mem_seen he)
    rcases this with h | h
    · simp at h
    · exact evK_P h (fun _ h => h.elim)
theorem opK_call {o : Oper} {f : FuncId} {args : Array Value} {K : Act → World → Prop} (hrun : ∀ w₁, Aside H w w₁ → (execOp a.eval o).run P w₁ = .ok (.enter f args) w₁ ∧ (¬ Lone → (execOp a.eval o).events P w₁ #[] = #[]))
    (h : ∀ w₁, Aside H w w₁ → CallsK P H Pt f args w₁ (fun e w' => ∃ v, e = .returned v ∧ K (a.put o.dst v) w')) : OpK P H Pt o a w K := by
  intro M b ops i rest k cs hk ho hw hc
  refine M.step rfl fun w₁ h₁ => ?_
  obtain ⟨hr, he⟩ := hrun w₁ (M.sub h₁)
  refine ⟨_, w₁, _, stepG_enter ho hw hk hr, fun hl => ⟨fun _ _ => rfl, fun e h => ?_⟩, ?_⟩
  · have := mem_listed h
    rw [he hl] at this
    simp at this
  · refine h w₁ (M.sub h₁) M _ fun fr w' _ hl => ?_
    refine M.step rfl fun w₂ h₂ => ?_
    obtain ⟨v, es, h3, h4, v', e5, h5⟩ := leaves_step (Pt := Pt) (c := b.at a (.inRegion ops (i :: rest) :: k)) (cs := cs) hl h₂ true
    cases e5
    have hfin : (b.at a (.inRegion ops (i :: rest) :: k)).finish v = b.at (a.put o.dst v) (.inRegion ops rest :: k) := by rw [Frame.finish_at, ho]; rfl
    rw [hfin] at h3
    exact ⟨_, w₂, es, h3, fun _ => ⟨fun _ _ => rfl, h4⟩, hc _ _ h5⟩
/-- alone -/
theorem calls_of {f : FuncId} {args : Array Value} {R : Ending → World → Prop} (h : CallsK P H Pt f args w R) : Calls P f args w (fun e w' => ∃ v, e = .returned v ∧ R (.returned v) w') := by
  intro cs
  let M : Sys P H Pt :=
    { Rl := Eq
      Run := fun g w => ∃ w' fr v, Steps P (solo g w) (solo (G fr cs) w') ∧ fr.fn = f ∧ fr.leaving P w' (.returned v) ∧ R (.returned v) w'
      sub := fun e => e ▸ Aside.refl _ _
      rely := fun h e => e ▸ h
      eq := fun _ _ _ e => e.symm
      steps := fun _ _ _ _ _ hs ⟨w2, fr, v, h2, h3⟩ => ⟨w2, fr, v, hs.trans h2, h3⟩
      step := fun {g w} hs h => by
        obtain ⟨g', w', es, h1, _, w2, fr, v, h2, h3⟩ := h w rfl
        refine ⟨w2, fr, v, Steps.head ?_ h2, h3⟩
        have := (stepT_solo (P := P) (w := w) hs).trans (runT_solo_go h1)
        rw [step, this] }
  obtain ⟨w', fr, v, h1, h2, h3, h4⟩ := h M cs fun fr w' hf hl => by
    obtain ⟨fn, h1, h2⟩ := hl.fn
    obtain ⟨v, h3, h4⟩ := h2 w' rfl
    exact ⟨w', fr, v, .refl _ _, hf, ⟨hl.mode, hl.defers, hl.kind, fn, h1, h3⟩, h4⟩
  exact ⟨.returned v, w', fr, ⟨v, rfl, h4⟩, h1, h2, h3⟩
end
end Co
end Go.Proofs.Ytgeakpeodhhffaa

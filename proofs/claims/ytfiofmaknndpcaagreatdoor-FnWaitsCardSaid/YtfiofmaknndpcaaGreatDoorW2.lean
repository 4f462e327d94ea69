/- Lemmas for the proofs, part 2 of 7: a symbolic run of the program, and what it needs. -/
import Derived.Maps.AppendAt
import Derived.OwnWalk
import Derived.Orders
import Derived.Lib.AppendZerosOnto
import Derived.Deep.MidRow
import Derived.IntWalk
import Derived.Laws.StructEq
import Derived.ArgAppend
import Derived.Laws.Tables
import Derived.Test.YtfiofmaknndpcaaGreatDoorW1
set_option linter.unusedVariables false
set_option linter.unusedSimpArgs false
set_option maxRecDepth 100000
namespace Go.Proofs.YtfiofmaknndpcaaGreatDoor
open Go.RowKit
namespace Eng
open Tr
inductive Cell where
 | lit (v : Value)
 | row (T k n : Nat) (c : D)
def qdn : D -> Nat -> Option Cell
 | .nil, _ => none
 | .lit v _, 0 => some (.lit v)
 | .row T k n c _, 0 => some (.row T k n c)
 | .lit _ r, j + 1 => qdn r j
 | .row _ _ _ _ r, j + 1 => qdn r j
def dSet : D -> Nat -> Cell -> D
 | .nil, _, _ => .nil
 | .lit _ r, 0, .lit v => .lit v r
 | .lit _ r, 0, .row T k n c => .row T k n c r
 | .row _ _ _ _ r, 0, .lit v => .lit v r
 | .row _ _ _ _ r, 0, .row T k n c => .row T k n c r
 | .lit v r, j + 1, x => .lit v (dSet r j x)
 | .row T k n c r, j + 1, x => .row T k n c (dSet r j x)
inductive CV where
 | lit (v : Value)
 | ro (T k n : Nat) (c : D)
 | hd (r : Nat)
 | box (r j : Nat)
 | el (r k i j : Nat)
 | roel (T k n : Nat) (c : D) (i j : Nat)
 | ifro (T : Nat) (d : D)
 | fn (f : Nat) (cs : List (Option (Nat × Nat)))
 | part (r k a n : Nat)
inductive SV where
 | one (c : CV)
 | agg (l : List CV)
inductive TV where
 | sv (s : SV)
 | tup (l : List SV)
 | gd (b : Bool) (s : SV)
inductive Blk where
 | box (T : Nat) (vs : List CV)
 | row (T k : Nat) (l : List D)
 | pin (q : Nat) (x : Value)
 | rro (T k : Nat) (l : List D)
structure TI where
 desc : TypeDesc
 size : Nat
 bytes : Nat
 z : Value
 fs : List (Nat × Nat × Bool)
 eqs : Option (List (Option IntKind))
def TI.isAgg (i : TI) : Bool := match i.desc with | .struct _ => true | .array _ _ => true | _ => false
abbrev TT := List (Nat × TI)
abbrev TL := List (Nat × TV)
abbrev ML := List (Nat × Option Blk)
def lk {α : Type} : List (Nat × α) -> Nat -> Option α
 | [], _ => none
 | (k, v) :: l, n => match Nat.beq k n with | true => some v | false => lk l n
def nth {α : Type} : List α -> Nat -> Option α
 | [], _ => none
 | a :: _, 0 => some a
 | _ :: l, n + 1 => nth l n
def hasN : List Nat -> Nat -> Bool
 | [], _ => false
 | k :: l, n => match Nat.beq k n with | true => true | false => hasN l n
def app {α : Type} : List α -> List α -> List α
 | [], m => m
 | a :: l, m => a :: app l m
def qik {α : Type} : Nat -> List α -> List α
 | 0, l => l
 | _ + 1, [] => []
 | n + 1, _ :: l => qik n l
def qha {α : Type} : Nat -> List α -> Option (List α)
 | 0, _ => some []
 | _ + 1, [] => none
 | n + 1, a :: l => match qha n l with | some m => some (a :: m) | none => none
def putL {α : Type} : Nat -> List α -> List α -> Option (List α)
 | 0, [], l => some l
 | 0, _ :: _, [] => none
 | 0, x :: xs, _ :: l => match putL 0 xs l with | some m => some (x :: m) | none => none
 | _ + 1, _, [] => none
 | n + 1, xs, a :: l => match putL n xs l with | some m => some (a :: m) | none => none
def oneV : Value -> Bool
 | .agg _ => false
 | .tuple _ => false
 | _ => true
def CV.ofCell : Cell -> Option CV
 | .lit v => match oneV v with
  | true => some (.lit v)
  | false => none
 | .row T k n c => some (.ro T k n c)
def qmo : D -> Nat -> Nat -> Option (List CV)
 | _, _, 0 => some []
 | d, j, n + 1 => match qdn d j, qmo d (j + 1) n with
  | some c, some l => match CV.ofCell c with
   | some x => some (x :: l)
   | none => none
  | _, _ => none
def Elem (c : D) (k n i : Nat) (d : D) : Prop := ∃ l, c = D.cat l /\ n = l.length /\ (∀ d ∈ l, d.len = k) /\ l[i]? = some d
def inK (k : IntKind) (n : Int) : Prop := k.wrap n = n
def All : List Prop -> Prop
 | [] => True
 | p :: l => p /\ All l
structure Eff where
 v : Option TV
 wr : ML
 al : List Nat
 use : List Nat
 ob : List Prop
def unG (g : Option Bool) : TV -> Option (SV × List Prop)
 | .sv v => some (v, [])
 | .gd b v => match g with
  | some g => some (v, [g = b])
  | none => none
 | .tup _ => none
def opd (t : TL) (g : Option Bool) : Operand -> Option (SV × List Prop)
 | .tmp s => match lk t s with
  | some v => unG g v
  | none => none
 | .const (.agg _) => none
 | .const (.tuple _) => none
 | .const v => some (.one (.lit v), [])
 | .func f => some (.one (.lit (.func (.func f) #[] #[])), [])
 | .global g => some (.one (.lit (.pointer (some ⟨g, 0, none⟩))), [])
def jh (g : Option Bool) (v : SV) : TV :=
 match g with
 | none => .sv v
 | some b => .gd b v
def gOb (g : Option Bool) (ob : List Prop) : List Prop :=
 match g with
 | none => ob
 | some b => match ob with
  | [] => []
  | p :: l => [b = true -> All (p :: l)]
def qa3 (g : Option Bool) (v : SV) (o1 ob : List Prop) : Option Eff := some { v := some (jh g v), wr := [], al := [], use := [], ob := app o1 (gOb g ob) }
def qx4 (op : BinOp) (k : IntKind) (a b : Int) : Option (Value × List Prop) :=
 match op with
 | .add => some (.int k (a + b), [inK k (a + b)])
 | .sub => some (.int k (a - b), [inK k (a - b)])
 | .mul => some (.int k (a * b), [inK k (a * b)])
 | .eql => some (.bool (a == b), [])
 | .neq => some (.bool (a != b), [])
 | .lss => some (.bool (a < b), [])
 | .leq => some (.bool (a <= b), [])
 | .gtr => some (.bool (a > b), [])
 | .geq => some (.bool (a ≥ b), [])
 | .quo => some (.int k (a.tdiv b), [b ≠ 0, inK k (a.tdiv b)])
 | .rem => some (.int k (a.tmod b), [b ≠ 0])
 | .and => some (.int k (k.wrap (BitVec.ofInt k.bits a &&& BitVec.ofInt k.bits b).toNat), [])
 | .or => some (.int k (k.wrap (BitVec.ofInt k.bits a ||| BitVec.ofInt k.bits b).toNat), [])
 | .xor => some (.int k (k.wrap (BitVec.ofInt k.bits a ^^^ BitVec.ofInt k.bits b).toNat), [])
 | .andNot => some (.int k (k.wrap (BitVec.ofInt k.bits a &&& ~~~BitVec.ofInt k.bits b).toNat), [])
 | _ => none
def qg : Value -> Bool
 | .nilIface => true
 | _ => false
def q7z : Value -> Prop
 | .nilIface => True
 | .iface _ _ => True
 | _ => False
def nilV (d : TypeDesc) (u v : Value) : Option (Bool × List Prop) :=
 match d, v with
 | .interface _, .nilIface => some (qg u, [q7z u])
 | .slice _, .slice none 0 0 => match u with
  | .slice a _ _ => some (a.isNone, [])
  | _ => none
 | .pointer _, .pointer none => match u with
  | .pointer a => some (a.isNone, [])
  | _ => none
 | _, _ => none
def nilB (tt : TT) (op : BinOp) (T : Nat) (u v : Value) : Option (Value × List Prop) :=
 match lk tt T with
 | some i => match nilV i.desc u v, op with
  | some (b, ob), .eql => some (.bool b, ob)
  | some (b, ob), .neq => some (.bool (!b), ob)
  | _, _ => none
 | none => none
def qqo : IntKind -> IntKind -> Bool
 | .i64, .i64 => true
 | .u8, .u8 => true
 | .i32, .i32 => true
 | .u64, .u64 => true
 | _, _ => false
def gAnd (g : Option Bool) (c : Bool) : Bool := match g with | none => c | some g => g && c
def wB (want b : Bool) : Bool := match want with | true => b | false => !b
def guardOf (ops : List Oper) (t : TL) : Option (Nat × Bool) -> Option (Option Bool)
 | none => some none
 | some (j, want) => match nth ops j with
  | some o => match o.dst with
   | some s => match lk t s with
    | some (.sv (.one (.lit (.bool b)))) => some (some (wB want b))
    | some (.gd gb (.one (.lit (.bool b)))) => some (some (gb && wB want b))
    | _ => none
   | none => none
  | none => none
structure Glb where
 g : Nat
 cs : List Value
 T : Nat
 fz : Nat × Nat := (0, 0)
structure CFD where
 f : Nat
 args : List SV
 pre : ML
 res : TV
 post : ML
 nm : List Nat
 gl : List Glb := []
structure Ok where
 fn : CFD -> Prop
 gl : Glb -> Prop
 mt : Nat -> String -> Nat -> Prop
def qcz (f : Glb -> Prop) : List Glb -> Prop
 | [] => True
 | x :: l => f x /\ qcz f l
inductive Inp where
 | none
 | elem (d : D)
 | elems (l : List D)
 | keep
 | nest (d : D) (ps : List (Nat × Nat))
 | call (c : CFD)
 | sure (c : CFD)
 | skip (v : SV)
 | glob (x : Glb) (vs : List Value)
def qn5 : D -> Nat -> Nat -> Option (List CV)
 | _, _, 0 => some []
 | d, j, n + 1 => match qdn d j, qn5 d (j + 1) n with
  | some (.lit v), some l => match oneV v with
   | true => some (.lit v :: l)
   | false => none
  | _, _ => none
def one? (agg : Bool) (l : List CV) : Option SV :=
 match agg with
 | true => some (.agg l)
 | false => match l with
  | [x] => some (.one x)
  | _ => none
def SV.cells : SV -> List CV
 | .one c => [c]
 | .agg l => l
def lenL {α : Type} : List α -> Nat
 | [] => 0
 | _ :: l => lenL l + 1
def pinC (m : ML) : List (Nat × Nat) -> List CV -> Option (List CV × List Prop × List Nat)
 | [], cs => some (cs, [], [])
 | (jj, p) :: l, cs => match nth cs jj, lk m p with
  | some (.lit y), some (some (.pin q x)) => match putL jj [.hd q] cs with
   | some cs' => match pinC m l cs' with
    | some (cs'', ob, u) => some (cs'', (y = x) :: ob, p :: u)
    | none => none
   | none => none
  | _, _ => none
def qst (tt : TT) (ok : Ok) (t : TL) (m : ML) (g : Option Bool) (inp : Inp) (T : Nat) (x : Operand) : Option Eff :=
 match lk tt T with
 | none => none
 | some i => match opd t g x with
  | some (.one (.box r j), o1) => match lk m r with
   | some (some (.box _ vs)) => match qha i.size (qik j vs) with
    | some l => match one? i.isAgg l with
     | some v => some { v := some (jh g v), wr := [], al := [], use := [r], ob := o1 }
     | none => none
    | none => none
   | _ => none
  | some (.one (.roel _ k n c ii j), o1) => match inp with
   | .elem d => match qmo d j i.size with
    | some l => match one? i.isAgg l with
     | some v => some { v := some (jh g v), wr := [], al := [], use := [], ob := app o1 (gOb g [Elem c k n ii d]) }
     | none => none
    | none => none
   | _ => none
  | some (.one (.el r k ii j), o1) => match lk m r, inp with
   | some (some (.row _ k' l)), .elem d => match Nat.beq k k', qn5 d j i.size with
    | true, some cs => match one? i.isAgg cs with
     | some v => some { v := some (jh g v), wr := [], al := [], use := [r], ob := app o1 (gOb g [l[ii]? = some d]) }
     | none => none
    | _, _ => none
   | some (some (.row _ k' l)), .nest d ps => match Nat.beq k k', qn5 d j i.size with
    | true, some cs => match pinC m ps cs with
     | some (cs', o2, u) => match one? i.isAgg cs' with
      | some v => some { v := some (jh g v), wr := [], al := [], use := r :: u, ob := app o1 (gOb g ((l[ii]? = some d) :: o2)) }
      | none => none
     | none => none
    | _, _ => none
   | _, _ => none
  | some (.one (.lit (.pointer (some ⟨b, o, none⟩))), o1) => match inp with
   | .glob y vs => match Nat.beq y.g b, Nat.beq (lenL vs) i.size, one? i.isAgg (vs.map .lit) with
    | true, true, some v => some { v := some (jh g v), wr := [], al := [], use := [], ob := app o1 (gOb g [ok.gl y, qha (lenL vs) (qik o y.cs) = some vs, ∀ u ∈ vs, u.oneCell' = true]) }
    | _, _, _ => none
   | _ => none
  | _ => none
def disj : List Nat -> List Nat -> Bool
 | [], _ => true
 | r :: l, u => match hasN u r with
  | true => false
  | false => disj l u
def dropped : List Nat -> ML
 | [] => []
 | r :: l => (r, none) :: dropped l
def toD (m : ML) : List CV -> Option (D × List Nat)
 | [] => some (.nil, [])
 | .lit v :: l => match toD m l with
  | some (d, u) => some (.lit v d, u)
  | none => none
 | .hd r :: l => match lk m r, toD m l with
  | some (some (.row T k es)), some (d, u) => match hasN u r with
   | false => some (.row T k es.length (D.cat es) d, r :: u)
   | true => none
  | _, _ => none
 | _ => none
def dPut : D -> Nat -> D -> D
 | d, _, .nil => d
 | d, j, .lit v e => dPut (dSet d j (.lit v)) (j + 1) e
 | d, j, .row T k n c e => dPut (dSet d j (.row T k n c)) (j + 1) e
def qlx (tt : TT) (t : TL) (m : ML) (inp : Inp) (T : Nat) (x y : Operand) : Option Eff :=
 match lk tt T, opd t none y with
 | some i, some (v, o2) => match Nat.beq (lenL v.cells) i.size with
  | false => none
  | true => match opd t none x with
   | some (.one (.box r j), o1) => match lk m r with
    | some (some (.box T' vs)) => match putL j v.cells vs with
     | some vs' => some { v := none, wr := [(r, some (.box T' vs'))], al := [], use := [r], ob := app o1 o2 }
     | none => none
    | _ => none
   | some (.one (.el r k ii j), o1) => match lk m r, inp, toD m v.cells with
    | some (some (.row T' k' l)), .elem d, some (e, u) => match Nat.beq k k', hasN u r with
     | true, false => some { v := none, wr := (r, some (.row T' k' (l.set ii (dPut d j e)))) :: dropped u, al := [], use := r :: u, ob := app o1 (app o2 [l[ii]? = some d, j + i.size <= d.len]) }
     | _, _ => none
    | _, _, _ => none
   | _ => none
 | _, _ => none
def dOf : List Value -> D
 | [] => .nil
 | v :: l => .lit v (dOf l)
def rep {α : Type} : Nat -> α -> List α
 | 0, _ => []
 | n + 1, a => a :: rep n a
def partsOf (t : TL) (g : Option Bool) : List (Nat × Operand) -> Option (List (Nat × SV) × List Prop)
 | [] => some ([], [])
 | (i, x) :: l => match opd t g x, partsOf t g l with
  | some (v, o1), some (ps, o2) => some ((i, v) :: ps, app o1 o2)
  | _, _ => none
def qn6 (fs : List (Nat × Nat × Bool)) : List CV -> List (Nat × SV) -> Option (List CV)
 | cs, [] => some cs
 | cs, (i, v) :: l => match nth fs i with
  | some (off, sz, _) => match Nat.beq (lenL v.cells) sz, putL off v.cells cs with
   | true, some cs' => qn6 fs cs' l
   | _, _ => none
  | none => none
def qud (sz : Nat) (ag : Bool) : Nat -> Nat -> List (Nat × Nat × Bool)
 | 0, _ => []
 | n + 1, o => (o, sz, ag) :: qud sz ag n (o + sz)
def qpb (tt : TT) (t : TL) (g : Option Bool) (T : Nat) (ps : List (Nat × Operand)) : Option Eff :=
 match lk tt T, partsOf t g ps with
 | some i, some (vs, o1) => match i.desc with
  | .array N el => match lk tt el with
   | some ie => match qn6 (qud ie.size ie.isAgg N 0) (i.z.cells.toList.map .lit) vs with
    | some l => some { v := some (jh g (.agg l)), wr := [], al := [], use := [], ob := o1 }
    | none => none
   | none => none
  | .struct _ => match qn6 i.fs (i.z.cells.toList.map .lit) vs with
   | some l => some { v := some (jh g (.agg l)), wr := [], al := [], use := [], ob := o1 }
   | none => none
  | _ => none
 | _, _ => none
def elemsOf (m : ML) (k : Nat) (z : D) : Nat -> Nat -> List (Nat × SV) -> Option (List D × List Nat)
 | 0, _, [] => some ([], [])
 | 0, _, _ :: _ => none
 | n + 1, i, (i', v) :: l => match Nat.beq i i' with
  | true => match Nat.beq (lenL v.cells) k, toD m v.cells, elemsOf m k z n (i + 1) l with
   | true, some (d, u), some (ds, u') => match disj u u' with
    | true => some (d :: ds, app u u')
    | false => none
   | _, _, _ => none
  | false => match elemsOf m k z n (i + 1) ((i', v) :: l) with
   | some (ds, u') => some (z :: ds, u')
   | none => none
 | n + 1, i, [] => match elemsOf m k z n (i + 1) [] with
  | some (ds, u') => some (z :: ds, u')
  | none => none
def qfr : Nat -> List (Nat × SV) -> Option (List D)
 | _, [] => some []
 | i, (i', .one (.ro T k n c)) :: l => match Nat.beq i i', qfr (i + 1) l with
  | true, some ds => some (.row T k n c .nil :: ds)
  | _, _ => none
 | _, _ :: _ => none
def qe3 (tt : TT) (t : TL) (m : ML) (s : Nat) (g : Option Bool) (T n : Nat) (ps : List (Nat × Operand)) : Option Eff :=
 match lk tt T, partsOf t g ps with
 | some i, some (vs, o1) => match i.desc with
  | .slice e => match lk tt e with
   | some ie => match elemsOf m ie.size (dOf ie.z.cells.toList) n 0 vs with
    | some (ds, u) => some { v := some (.sv (.one (.hd s))), wr := (s, some (.row e ie.size ds)) :: dropped u, al := [s], use := u, ob := app o1 [n * ie.size <= 16777216, 0 < ie.size] }
    | none => match Nat.beq ie.size 1, qfr 0 vs with
     | true, some ds => match Nat.beq (lenL ds) n with
      | true => some { v := some (.sv (.one (.hd s))), wr := [(s, some (.rro e 1 ds))], al := [s], use := [], ob := app o1 [n <= 16777216] }
      | false => none
     | _, _ => none
   | none => none
  | _ => none
 | _, _ => none
def qpc (tt : TT) (t : TL) (s : Nat) (T : Nat) (x y : Operand) : Option Eff :=
 match lk tt T, opd t none x, opd t none y with
 | some i, some (.one (.lit (.int .i64 n)), o1), some (.one (.lit (.int .i64 c)), o2) => match i.desc with
  | .slice e => match lk tt e with
   | some ie => some { v := some (.sv (.one (.hd s))), wr := [(s, some (.row e ie.size (List.replicate n.toNat (dOf ie.z.cells.toList))))], al := [s], use := [], ob := app o1 (app o2 [n <= c, 0 <= n, c <= 1048576, ie.bytes <= 1000, 0 < ie.size]) }
   | none => none
  | _ => none
 | _, _, _ => none
def rowOf (m : ML) (e k : Nat) : SV -> Option (List Nat × List D)
 | .one (.lit (.slice none 0 0)) => some ([], [])
 | .one (.hd r) => match lk m r with
  | some (some (.row T k' l)) => match Nat.beq T e, Nat.beq k' k with
   | true, true => some ([r], l)
   | _, _ => none
  | _ => none
 | _ => none
def qhb (tt : TT) (t : TL) (m : ML) (s : Nat) (inp : Inp) (T : Nat) (x y : Operand) : Option Eff :=
 match lk tt T, opd t none x, opd t none y with
 | some i, some (v, o1), some (u, o2) => match i.desc with
  | .slice e => match lk tt e with
   | some ie => match rowOf m e ie.size v with
    | some (r1, l1) => match inp with
     | .elems l => match u with
      | .one (.ro _ k n c) => match Nat.beq k ie.size with
       | true => some { v := some (.sv (.one (.hd s))), wr := (s, some (.row e ie.size (app l1 l))) :: dropped r1, al := [s], use := r1, ob := app o1 (app o2 [c = D.cat l, n = l.length, ∀ d ∈ l, d.len = k /\ d.flat, l1.length + l.length <= 2097152, ie.bytes <= 1000, 0 < ie.size]) }
       | false => none
      | _ => none
     | .keep => match rowOf m e ie.size u with
      | some (r2, l2) => match disj r1 r2 with
       | true => some { v := some (.sv (.one (.hd s))), wr := (s, some (.row e ie.size (app l1 l2))) :: dropped r1, al := [s], use := app r1 r2, ob := app o1 (app o2 [∀ d ∈ l2, d.flat, l1.length + l2.length <= 2097152, ie.bytes <= 1000, 0 < ie.size]) }
       | false => none
      | none => none
     | _ => match rowOf m e ie.size u with
      | some (r2, l2) => match disj r1 r2 with
       | true => some { v := some (.sv (.one (.hd s))), wr := (s, some (.row e ie.size (app l1 l2))) :: dropped (app r1 r2), al := [s], use := app r1 r2, ob := app o1 (app o2 [l1.length + l2.length <= 2097152, ie.bytes <= 1000, 0 < ie.size]) }
       | false => none
      | none => none
    | none => none
   | none => none
  | _ => none
 | _, _, _ => none
def qff (t : TL) (g : Option Bool) : Option Operand -> Int -> Option (Int × List Prop)
 | none, d => some (d, [])
 | some x, _ => match opd t g x with
  | some (.one (.lit (.int _ a)), o) => some (a, o)
  | _ => none
def qpd (tt : TT) (t : TL) (m : ML) (s : Nat) (g : Option Bool) (inp : Inp) (T : Nat) (x : Operand) (lo hi : Option Operand) : Option Eff :=
 match lk tt T, opd t g x with
 | some i, some (v, o1) => match i.desc with
  | .slice e => match lk tt e with
   | some ie => match v with
    | .one (.hd r) => match lk m r with
     | some (some (.row T' k l)) => match inp with
      | .keep => match Nat.beq T' e, Nat.beq k ie.size, qff t g lo 0, qff t g hi l.length with
       | true, true, some (a, o2), some (b, o3) => some { v := some (.sv (.one (.part r k a.toNat (b.toNat - a.toNat)))), wr := [], al := [], use := [r], ob := app o1 (app o2 (app o3 [0 <= a, a <= b, b <= l.length])) }
       | _, _, _, _ => none
      | _ => match Nat.beq T' e, Nat.beq k ie.size, qff t g lo 0, qff t g hi l.length with
       | true, true, some (a, o2), some (b, o3) => some { v := some (.sv (.one (.hd s))), wr := [(s, some (.row T' k ((l.take b.toNat).drop a.toNat))), (r, none)], al := [s], use := [r], ob := app o1 (app o2 (app o3 [0 <= a, a <= b, b <= l.length, ∀ d ∈ l, d.flat])) }
       | _, _, _, _ => none
     | _ => none
    | .one (.ro T' k n c) => match inp with
     | .elems l => match Nat.beq k ie.size, qff t g lo 0, qff t g hi n with
      | true, some (a, o2), some (b, o3) => qa3 g (.one (.ro T' k (b.toNat - a.toNat) (D.cat ((l.take b.toNat).drop a.toNat)))) (app o1 (app o2 o3)) [c = D.cat l, n = l.length, ∀ d ∈ l, d.len = k, 0 <= a, a <= b, b <= n]
      | _, _, _ => none
     | _ => none
    | .one (.lit y) => match inp with
     | .keep => match y with
      | .slice A ln cp => match qff t g lo 0, qff t g hi ln with
       | some (a, o2), some (b, o3) => qa3 g (.one (.lit (.slice (A.map (·.add (a.toNat * ie.size))) (b.toNat - a.toNat) (cp - a.toNat)))) (app o1 (app o2 o3)) [0 <= a, a <= b, b <= ln, a < cp, ln <= cp]
       | _, _ => none
      | _ => none
     | _ => match y with
      | .slice none 0 0 => match qff t g lo 0, qff t g hi 0 with
       | some (a, o2), some (b, o3) => qa3 g (.one (.lit (.slice none 0 0))) (app o1 (app o2 o3)) [a = 0, b = 0]
       | _, _ => none
      | _ => none
    | _ => none
   | none => none
  | _ => none
 | _, _ => none
def qmp (tt : TT) (t : TL) (m : ML) (s : Nat) (g : Option Bool) (T : Nat) (x : Operand) (lo hi : Option Operand) (mx : Operand) : Option Eff :=
 match lk tt T, opd t g x with
 | some i, some (.one (.hd r), o1) => match i.desc with
  | .slice e => match lk tt e with
   | some ie => match lk m r with
    | some (some (.row T' k l)) => match Nat.beq T' e, Nat.beq k ie.size, qff t g lo 0, qff t g hi l.length, qff t g (some mx) 0 with
     | true, true, some (a, o2), some (b, o3), some (c, o4) => some { v := some (.sv (.one (.hd s))), wr := [(s, some (.row T' k ((l.take b.toNat).drop a.toNat))), (r, none)], al := [s], use := [r], ob := app o1 (app o2 (app o3 (app o4 [0 <= a, a <= b, b <= c, c <= l.length, hi.isSome = true, ∀ d ∈ l, d.flat]))) }
     | _, _, _, _, _ => none
    | _ => none
   | none => none
  | _ => none
 | _, _ => none
def qmq (tt : TT) (t : TL) (s : Nat) (T T' : Nat) (x y : Operand) : Option Eff :=
 match lk tt T, lk tt T', opd t none x, opd t none y with
 | some i, some i', some (.one (.lit (.slice none 0 0)), o1), some (.one (.lit (.int .i64 n)), o2) => match i.desc, i'.desc with
  | .slice e, .int .i64 => match lk tt e with
   | some ie => some { v := some (.sv (.one (.hd s))), wr := [(s, some (.row e ie.size (List.replicate n.toNat (dOf ie.z.cells.toList))))], al := [s], use := [], ob := app o1 (app o2 [0 < n, n <= 1048576, ie.bytes <= 1000, 0 < ie.size]) }
   | none => none
  | _, _ => none
 | _, _, _, _ => none
def qpe (tt : TT) (t : TL) (g : Option Bool) (T : Nat) (x : Operand) : Option Eff :=
 match lk tt T, opd t g x with
 | some i, some (.one (.lit (.slice none 0 0)), o1) => match i.desc with
  | .slice _ => qa3 g (.one (.lit (.int .i64 0))) o1 []
  | _ => none
 | _, _ => none
def q42 (m : ML) (d : TypeDesc) (v : SV) : Option (Int × List Nat) :=
 match d with
 | .string => match v with
  | .one (.lit (.string s)) => some (s.size, [])
  | _ => none
 | .slice _ => match v with
  | .one (.lit (.slice none 0 0)) => some (0, [])
  | .one (.ro _ _ n _) => some (n, [])
  | .one (.hd r) => match lk m r with
   | some (some (.row _ _ l)) => some (l.length, [r])
   | _ => none
  | _ => none
 | _ => none
def qpf (tt : TT) (t : TL) (m : ML) (g : Option Bool) (T : Nat) (x : Operand) : Option Eff :=
 match lk tt T, opd t g x with
 | some i, some (v, o1) => match q42 m i.desc v with
  | some (n, u) => some { v := some (jh g (.one (.lit (.int .i64 n)))), wr := [], al := [], use := u, ob := o1 }
  | none => none
 | _, _ => none
def qhc (tt : TT) (t : TL) (g : Option Bool) (T : Nat) (x : Operand) (f : Nat) : Option Eff :=
 match lk tt T, opd t g x with
 | some i, some (v, o1) => match i.desc, nth i.fs f with
  | .struct _, some (off, sz, _) => match Nat.beq sz 0, v with
   | false, .one (.box r j) => qa3 g (.one (.box r (j + off))) o1 []
   | false, .one (.roel T k n c ii j) => qa3 g (.one (.roel T k n c ii (j + off))) o1 []
   | false, .one (.el r k ii j) => qa3 g (.one (.el r k ii (j + off))) o1 []
   | _, _ => none
  | _, _ => none
 | _, _ => none
def qpg (tt : TT) (t : TL) (g : Option Bool) (T : Nat) (x : Operand) (f : Nat) : Option Eff :=
 match lk tt T, opd t g x with
 | some i, some (.agg l, o1) => match i.desc, nth i.fs f with
  | .struct _, some (off, sz, ag) => match qha sz (qik off l) with
   | some cs => match one? ag cs with
    | some v => qa3 g v o1 []
    | none => none
   | none => none
  | _, _ => none
 | _, _ => none
def qph (tt : TT) (t : TL) (g : Option Bool) (T : Nat) (x y : Operand) : Option Eff :=
 match lk tt T, opd t g x, opd t g y with
 | some it, some (.agg l, o1), some (.one (.lit (.int k i)), o2) => match it.desc with
  | .array N el => match lk tt el with
   | some ie => match qha ie.size (qik (i.toNat * ie.size) l) with
    | some cs => match one? ie.isAgg cs with
     | some v => qa3 g v (app o1 o2) [0 <= i, i < N]
     | none => none
    | none => none
   | none => none
  | _ => none
 | _, _, _ => none
def qhd (tt : TT) (t : TL) (m : ML) (g : Option Bool) (T : Nat) (x y : Operand) : Option Eff :=
 match lk tt T, opd t g x, opd t g y with
 | some it, some (v, o1), some (.one (.lit (.int k i)), o2) => match it.desc with
  | .slice e => match lk tt e with
   | some ie => match v with
    | .one (.ro T k n c) => match Nat.beq k ie.size with
     | true => qa3 g (.one (.roel T k n c i.toNat 0)) (app o1 o2) [0 <= i, i < n]
     | false => none
    | .one (.hd r) => match lk m r with
     | some (some (.row _ k l)) => match Nat.beq k ie.size with
      | true => some { v := some (jh g (.one (.el r k i.toNat 0))), wr := [], al := [], use := [r], ob := app o1 (app o2 (gOb g [0 <= i, i < l.length])) }
      | false => none
     | _ => none
    | _ => none
   | none => none
  | _ => none
 | _, _, _ => none
def qhe : List (Option IntKind) -> List CV -> List CV -> Option Bool
 | [], [], [] => some true
 | some k :: s, .lit (.int k1 a) :: l, .lit (.int k2 b) :: l' => match qqo k k1, qqo k k2, qhe s l l' with
  | true, true, some r => some ((a == b) && r)
  | _, _, _ => none
 | none :: s, .lit (.bool a) :: l, .lit (.bool b) :: l' => match qhe s l l' with
  | some r => some ((a == b) && r)
  | none => none
 | _, _, _ => none
def qsu (tt : TT) (op : BinOp) (T : Nat) (u v : Value) : Option (Value × List Prop) :=
 match v with
 | .int k' b => match u with
  | .int k a => match op with
   | .shl => some (.int k (k.wrap (a * 2 ^ (min b.toNat k.bits))), [0 <= b])
   | .shr => some (.int k (a.fdiv (2 ^ (min b.toNat k.bits))), [0 <= b])
   | op => match qqo k k' with
    | true => qx4 op k a b
    | false => none
  | _ => none
 | .bool b => match u with
  | .bool a => match lk tt T with
   | some i => match i.desc, op with
    | .bool, .eql => some (.bool (a == b), [])
    | .bool, .neq => some (.bool (!(a == b)), [])
    | _, _ => none
   | none => none
  | _ => none
 | .string b => match u with
  | .string a => match op with
   | .eql => some (.bool (a.toList == b.toList), [])
   | .neq => some (.bool (!(a.toList == b.toList)), [])
   | .add => some (.string (a ++ b), [a.size + b.size <= 1000000000])
   | _ => none
  | _ => none
 | v => nilB tt op T u v
def isConst : Operand -> Bool
 | .const _ => true
 | _ => false
def qly (tt : TT) (t : TL) (g : Option Bool) (op : BinOp) (T : Nat) (x y : Operand) : Option Eff :=
 match opd t g x, opd t g y with
 | some (.one (.lit u), o1), some (.one (.lit v), o2) => match qsu tt op T u v with
  | some (r, ob) => match isConst y, v with
   | false, .nilIface => none
   | _, _ => qa3 g (.one (.lit r)) (app o1 o2) ob
  | none => none
 | some (.agg l, o1), some (.agg l', o2) => match lk tt T with
  | some i => match i.eqs with
   | some sh => match qhe sh l l', op with
    | some b, .eql => qa3 g (.one (.lit (.bool b))) (app o1 o2) []
    | some b, .neq => qa3 g (.one (.lit (.bool (!b)))) (app o1 o2) []
    | _, _ => none
   | none => none
  | none => none
 | _, _ => none
def mmI (mn : Bool) (a b : Int) : Int := match mn with | true => if b < a then b else a | false => if b > a then b else a
def evMM (t : TL) (g : Option Bool) (mn : Bool) (x y : Operand) : Option Eff :=
 match opd t g x, opd t g y with
 | some (.one (.lit (.int k a)), o1), some (.one (.lit (.int k' b)), o2) => match qqo k k' with
  | true => qa3 g (.one (.lit (.int k (mmI mn a b)))) (app o1 o2) []
  | false => none
 | _, _ => none
def qpi (tt : TT) (t : TL) (g : Option Bool) (S T : Nat) (x : Operand) : Option Eff :=
 match lk tt S, lk tt T, opd t g x with
 | some i, some j, some (.one (.lit (.int k a)), o1) => match i.desc, j.desc with
  | .int _, .int k' => qa3 g (.one (.lit (.int k' (k'.wrap a)))) o1 []
  | _, _ => none
 | _, _, _ => none
def qpj (tt : TT) (t : TL) (m : ML) (inp : Inp) (T : Nat) (x y : Operand) : Option Eff :=
 match lk tt T, opd t none x, opd t none y, inp with
 | some i, some (.one (.hd r), o1), some (.one (.ro _ k n c), o2), .elems l => match i.desc, lk m r with
  | .slice e, some (some (.row T' k' l1)) => match lk tt e with
   | some ie => match Nat.beq k ie.size, Nat.beq k' ie.size with
    | true, true => some { v := some (.sv (.one (.lit (.int .i64 l.length)))), wr := [(r, some (.row T' k' l))], al := [], use := [r], ob := app o1 (app o2 [c = D.cat l, n = l.length, ∀ d ∈ l, d.len = k /\ d.flat, l1.length = l.length, ∀ d ∈ l1, d.flat]) }
    | _, _ => none
   | none => none
  | _, _ => none
 | _, _, _, _ => none
def qlz (tt : TT) (t : TL) (m : ML) (T : Nat) (x : Operand) : Option Eff :=
 match lk tt T, opd t none x with
 | some i, some (.one (.hd r), o1) => match i.desc, lk m r with
  | .slice e, some (some (.row T' k' l)) => match lk tt e with
   | some ie => match Nat.beq k' 1, oneV ie.z with
    | true, true => some { v := some (.tup []), wr := [(r, some (.row T' k' (List.replicate l.length (.lit ie.z .nil))))], al := [], use := [r], ob := app o1 [∀ d ∈ l, d.flat] }
    | _, _ => none
   | none => none
  | _, _ => none
 | _, _ => none
def qjc (tt : TT) (t : TL) (m : ML) (T : Nat) (x : Operand) (a p : Nat) : Option Eff :=
 match lk tt T, opd t none x, lk m p with
 | some i, some (.one (.lit y), o1), some (some (.pin q z)) => match y, z, i.desc, lk m q with
  | .slice A' n' c', .slice A n c, .slice e, some (some (.row T' k' l)) => match lk tt e with
   | some ie => match Nat.beq k' 1, oneV ie.z with
    | true, true => some { v := some (.tup []), wr := [(q, some (.row T' k' (l.take a ++ (List.replicate n' (.lit ie.z .nil) ++ l.drop (a + n')))))], al := [], use := [q, p], ob := app o1 [A' = A.map (·.add (a * 1)), a + n' <= l.length, 0 < n', ∀ d ∈ l, d.flat] }
    | _, _ => none
   | none => none
  | _, _, _, _ => none
 | _, _, _ => none
def evUn (t : TL) (g : Option Bool) (op : UnOp) (x : Operand) : Option Eff :=
 match op, opd t g x with
 | .not, some (.one (.lit (.bool b)), o1) => qa3 g (.one (.lit (.bool (!b)))) o1 []
 | .neg, some (.one (.lit (.int k n)), o1) => qa3 g (.one (.lit (.int k (0 - n)))) o1 [inK k (0 - n)]
 | _, _ => none
def qsv (t : TL) (g : Option Bool) (c x y : Operand) : Option Eff :=
 match opd t g c with
 | some (.one (.lit (.bool b)), o0) => match opd t (some (gAnd g b)) x, opd t (some (gAnd g (!b))) y with
  | some (.one (.lit (.bool p)), o1), some (.one (.lit (.bool q)), o2) => qa3 g (.one (.lit (.bool (bif b then p else q)))) (app o0 (app o1 o2)) []
  | _, _ => none
 | _ => none
def que (t : TL) (g : Option Bool) (x : Operand) : Option Eff :=
 match opd t g x with
 | some (.one (.box r j), o1) => qa3 g (.one (.box r j)) o1 []
 | _ => none
def qkg (t : TL) (x : Operand) (i : Nat) : Option Eff :=
 match x with
 | .tmp s => match lk t s with
  | some (.tup l) => match nth l i with
   | some v => qa3 none v [] []
   | none => none
  | _ => none
 | _ => none
def qpk (t : TL) (g : Option Bool) (x : Operand) : Option Eff :=
 match x, g with
 | .tmp s, none => match lk t s with
  | some (.tup l) => some { v := some (.tup l), wr := [], al := [], use := [], ob := [] }
  | _ => match opd t none x with
   | some (v, o1) => qa3 none v o1 []
   | none => none
 | _, _ => match opd t g x with
  | some (v, o1) => qa3 g v o1 []
  | none => none
def rn (π : List (Nat × Nat)) (s q : Nat) : Nat :=
 match lk π q with
 | some r => r
 | none => 1000 * (s + 1) + q
def jk (π : List (Nat × Nat)) (s : Nat) : List (Option (Nat × Nat)) -> List (Option (Nat × Nat))
 | [] => []
 | none :: l => none :: jk π s l
 | some (r, j) :: l => some (rn π s r, j) :: jk π s l
def rnC (π : List (Nat × Nat)) (s : Nat) : CV -> CV
 | .lit v => .lit v
 | .ro T k n c => .ro T k n c
 | .hd r => .hd (rn π s r)
 | .box r j => .box (rn π s r) j
 | .el r k i j => .el (rn π s r) k i j
 | .roel T k n c i j => .roel T k n c i j
 | .ifro T d => .ifro T d
 | .fn f cs => .fn f (jk π s cs)
 | .part r k a n => .part (rn π s r) k a n
def rnCs (π : List (Nat × Nat)) (s : Nat) : List CV -> List CV
 | [] => []
 | c :: l => rnC π s c :: rnCs π s l
def rnS (π : List (Nat × Nat)) (s : Nat) : SV -> SV
 | .one c => .one (rnC π s c)
 | .agg l => .agg (rnCs π s l)
def rnSs (π : List (Nat × Nat)) (s : Nat) : List SV -> List SV
 | [] => []
 | c :: l => rnS π s c :: rnSs π s l
def rnT (π : List (Nat × Nat)) (s : Nat) : TV -> TV
 | .sv v => .sv (rnS π s v)
 | .tup l => .tup (rnSs π s l)
 | .gd b v => .gd b (rnS π s v)
def rnB (π : List (Nat × Nat)) (s : Nat) : Blk -> Blk
 | .box T vs => .box T (rnCs π s vs)
 | .row T k l => .row T k l
 | .pin q x => .pin (rn π s q) x
 | .rro T k l => .rro T k l
def rnM (π : List (Nat × Nat)) (s : Nat) : ML -> ML
 | [] => []
 | (q, some b) :: m => (rn π s q, some (rnB π s b)) :: rnM π s m
 | (q, none) :: m => (rn π s q, none) :: rnM π s m
def rnN (π : List (Nat × Nat)) (s : Nat) : List Nat -> List Nat
 | [] => []
 | q :: l => rn π s q :: rnN π s l
def keys : ML -> List Nat
 | [] => []
 | (q, _) :: m => q :: keys m
def mCap (kp : List Nat) (π : List (Nat × Nat)) (s : Nat) : List (Option (Nat × Nat)) -> List (Option (Nat × Nat)) -> Bool
 | [], [] => true
 | none :: l, none :: l' => mCap kp π s l l'
 | some (q, j) :: l, some (r, j') :: l' => match hasN kp q, Nat.beq (rn π s q) r, Nat.beq j j' with
  | true, true, true => mCap kp π s l l'
  | _, _, _ => false
 | _, _ => false
def mC (kp : List Nat) (π : List (Nat × Nat)) (s : Nat) (m : ML) : CV -> CV -> Option (List Prop × List Nat)
 | .lit v, .lit v' => some ([v' = v], [])
 | .ro T k n c, .ro T' k' n' c' => match Nat.beq T T', Nat.beq k k' with
  | true, true => some ([n' = n, c' = c], [])
  | _, _ => none
 | .ro T k n c, .hd r => match lk m r with
  | some (some (.row T' k' l)) => match Nat.beq T T', Nat.beq k k' with
   | true, true => some ([l.length = n, D.cat l = c], [r])
   | _, _ => none
  | some (some (.rro T' k' l)) => match Nat.beq T T', Nat.beq k k' with
   | true, true => some ([l.length = n, D.cat l = c], [r])
   | _, _ => none
  | _ => none
 | .ro _ _ n c, .lit (.slice none 0 0) => some ([n = 0, c = .nil], [])
 | .ro T k n c, .part r k' a n' => match lk m r with
  | some (some (.row T' k2 l)) => match Nat.beq T T', Nat.beq k k2, Nat.beq k' k2 with
   | true, true, true => some ([n' = n, D.cat ((l.take (a + n')).drop a) = c], [r])
   | _, _, _ => none
  | _ => none
 | .ifro T d, .ifro T' d' => match Nat.beq T T' with
  | true => some ([d' = d], [])
  | false => none
 | .hd q, .hd r => match hasN kp q, Nat.beq (rn π s q) r with
  | true, true => some ([], [])
  | _, _ => none
 | .box q j, .box r j' => match hasN kp q, Nat.beq (rn π s q) r, Nat.beq j j' with
  | true, true, true => some ([], [])
  | _, _, _ => none
 | .fn f cs, .fn f' cs' => match Nat.beq f f', mCap kp π s cs cs' with
  | true, true => some ([], [])
  | _, _ => none
 | _, _ => none
def mCs (kp : List Nat) (π : List (Nat × Nat)) (s : Nat) (m : ML) : List CV -> List CV -> Option (List Prop × List Nat)
 | [], [] => some ([], [])
 | c :: l, c' :: l' => match mC kp π s m c c', mCs kp π s m l l' with
  | some (o1, r1), some (o2, r2) => some (app o1 o2, app r1 r2)
  | _, _ => none
 | _, _ => none
def mS (kp : List Nat) (π : List (Nat × Nat)) (s : Nat) (m : ML) : SV -> SV -> Option (List Prop × List Nat)
 | .one c, .one c' => mC kp π s m c c'
 | .agg l, .agg l' => mCs kp π s m l l'
 | _, _ => none
def mSs (kp : List Nat) (π : List (Nat × Nat)) (s : Nat) (m : ML) : List SV -> List SV -> Option (List Prop × List Nat)
 | [], [] => some ([], [])
 | c :: l, c' :: l' => match mS kp π s m c c', mSs kp π s m l l' with
  | some (o1, r1), some (o2, r2) => some (app o1 o2, app r1 r2)
  | _, _ => none
 | _, _ => none
def eB (kp : List Nat) (π : List (Nat × Nat)) (s : Nat) : Blk -> Blk -> Option (List Prop)
 | .box T vs, .box T' vs' => match Nat.beq T T', mCs kp π s [] vs vs' with
  | true, some (o, _) => some o
  | _, _ => none
 | .row T k l, .row T' k' l' => match Nat.beq T T', Nat.beq k k' with
  | true, true => some [l' = l]
  | _, _ => none
 | _, _ => none
def mPre (kp : List Nat) (π : List (Nat × Nat)) (s : Nat) (m : ML) : ML -> Option (List Prop)
 | [] => some []
 | (q, some b) :: l => match lk m (rn π s q), mPre kp π s m l with
  | some (some b'), some o2 => match eB kp π s b b' with
   | some o1 => some (app o1 o2)
   | none => none
  | _, _ => none
 | (_, none) :: _ => none
def allIn : List Nat -> List Nat -> Bool
 | [], _ => true
 | r :: l, u => match hasN u r with
  | true => allIn l u
  | false => false
def qdz : List Nat -> Bool
 | [] => true
 | r :: l => match hasN l r with
  | true => false
  | false => qdz l
def qx5 : CV -> Bool
 | .ro .. => false
 | .roel .. => false
 | .ifro .. => false
 | _ => true
def qit : List CV -> Bool
 | [] => true
 | c :: l => match qx5 c with | true => qit l | false => false
def quf : SV -> Bool
 | .one c => qx5 c
 | .agg l => qit l
def qmr : List SV -> Bool
 | [] => true
 | c :: l => match quf c with | true => qmr l | false => false
def qn7 : TV -> Bool
 | .sv s => quf s
 | .tup l => qmr l
 | .gd _ s => quf s
def q70 : Option Blk -> Bool
 | some (.box _ vs) => qit vs
 | some (.rro ..) => false
 | _ => true
def qil : ML -> Bool
 | [] => true
 | (_, b) :: m => match q70 b with | true => qil m | false => false
def isNil {α : Type} : List α -> Bool
 | [] => true
 | _ :: _ => false
def qbi (t : TL) (g : Option Bool) : List Operand -> Option (List SV × List Prop)
 | [] => some ([], [])
 | x :: l => match opd t g x, qbi t g l with
  | some (v, o1), some (vs, o2) => some (v :: vs, app o1 o2)
  | _, _ => none
def qug (g : Option Bool) (v : TV) : Option TV :=
 match g with
 | none => some v
 | some b => match v with
  | .sv s => some (.gd b s)
  | _ => none
def mpN (q r : Nat) (π : List (Nat × Nat)) : List (Nat × Nat) :=
 match lk π q with
 | some _ => π
 | none => (q, r) :: π
def qfg : List (Option (Nat × Nat)) -> List (Option (Nat × Nat)) -> List (Nat × Nat) -> List (Nat × Nat)
 | some (q, _) :: l, some (r, _) :: l', π => qfg l l' (mpN q r π)
 | none :: l, none :: l', π => qfg l l' π
 | _, _, π => π
def mpC : CV -> CV -> List (Nat × Nat) -> List (Nat × Nat)
 | .fn _ cs, .fn _ cs', π => qfg cs cs' π
 | .hd q, .hd r, π => mpN q r π
 | .box q _, .box r _, π => mpN q r π
 | .el q _ _ _, .el r _ _ _, π => mpN q r π
 | _, _, π => π
def mpCs : List CV -> List CV -> List (Nat × Nat) -> List (Nat × Nat)
 | c :: l, c' :: l', π => mpCs l l' (mpC c c' π)
 | _, _, π => π
def mpS : SV -> SV -> List (Nat × Nat) -> List (Nat × Nat)
 | .one c, .one c', π => mpC c c' π
 | .agg l, .agg l', π => mpCs l l' π
 | _, _, π => π
def mpSs : List SV -> List SV -> List (Nat × Nat) -> List (Nat × Nat)
 | c :: l, c' :: l', π => mpSs l l' (mpS c c' π)
 | _, _, π => π
def mpT : TV -> TV -> List (Nat × Nat) -> List (Nat × Nat)
 | .sv s, .sv s', π => mpS s s' π
 | .tup l, .tup l', π => mpSs l l' π
 | .gd _ s, .gd _ s', π => mpS s s' π
 | _, _, π => π
def mpO : TV -> Option TV -> List (Nat × Nat) -> List (Nat × Nat)
 | v, some v', π => mpT v v' π
 | _, none, π => π
def mpTL : TL -> TL -> List (Nat × Nat) -> List (Nat × Nat)
 | [], _, π => π
 | (s, v) :: l, t, π => mpTL l t (mpO v (lk t s) π)
def lkO : ML -> Option Nat -> Option (Option Blk)
 | m, some r => lk m r
 | _, none => none
def mpB : List CV -> Option (Option Blk) -> List (Nat × Nat) -> List (Nat × Nat)
 | vs, some (some (.box _ vs')), π => mpCs vs vs' π
 | _, _, π => π
def mpM : ML -> ML -> List (Nat × Nat) -> List (Nat × Nat)
 | [], _, π => π
 | (q, some (.box _ vs)) :: l, m, π => mpM l m (mpB vs (lkO m (lk π q)) π)
 | _ :: l, m, π => mpM l m π
def qa4 (ok : Ok) (o1 : List Prop) (vs : List SV) (m : ML) (s : Nat) (g : Option Bool) (c : CFD) (π : List (Nat × Nat)) : Option Eff :=
 match mSs (keys c.pre) π s m c.args vs, mPre (keys c.pre) π s m c.pre with
 | some (o2, ros), some o3 => match qdz (app (rnN π s (keys c.pre)) (rnN π s c.nm)), allIn (keys c.post) (app (keys c.pre) c.nm), disj ros (rnN π s (keys c.pre)) with
  | true, true, true => match (match isNil ros with | true => true | false => match qn7 c.res with | true => qil c.post | false => false) with
   | true => match g, isNil c.pre, isNil c.nm, isNil c.post with
    | none, _, _, _ => some { v := some (rnT π s c.res), wr := app (rnM π s c.post) (dropped (rnN π s (keys c.pre))), al := rnN π s c.nm, use := app ros (rnN π s (keys c.pre)), ob := app o1 (app o2 (app o3 [ok.fn c, qcz ok.gl c.gl])) }
    | some b, true, true, true => match qug (some b) (rnT π s c.res) with
     | some v => some { v := some v, wr := [], al := [], use := ros, ob := app o1 (gOb (some b) (app o2 [ok.fn c, qcz ok.gl c.gl])) }
     | none => none
    | _, _, _, _ => none
   | false => none
  | _, _, _ => none
 | _, _ => none
def qgo (ok : Ok) (t : TL) (m : ML) (s : Nat) (g : Option Bool) (inp : Inp) (f : Nat) (args : List Operand) : Option Eff :=
 match inp with
 | .call c => match Nat.beq c.f f, qbi t g args with
  | true, some (vs, o1) => qa4 ok o1 vs m s g c (mpM c.pre m (mpSs c.args vs []))
  | _, _ => none
 | .sure c => match Nat.beq c.f f, qbi t g args with
  | true, some (vs, o1) => qa4 ok o1 vs m s none c (mpM c.pre m (mpSs c.args vs []))
  | _, _ => none
 | .skip v => match g with
  | some b => some { v := some (.gd false v), wr := [], al := [], use := [], ob := [b = false] }
  | none => none
 | _ => none
def roD : List CV -> Option D
 | [] => some .nil
 | .lit v :: l => match roD l with
  | some d => some (.lit v d)
  | none => none
 | .ro T k n c :: l => match roD l with
  | some d => some (.row T k n c d)
  | none => none
 | _ => none
def roC : D -> List CV
 | .nil => []
 | .lit v d => .lit v :: roC d
 | .row T k n c d => .ro T k n c :: roC d
def qx6 (tt : TT) (t : TL) (g : Option Bool) (T : Nat) (x : Operand) : Option Eff :=
 match lk tt T with
 | none => none
 | some i => match i.desc with
  | .interface _ => none
  | _ => match opd t g x with
   | some (.agg l, o1) => match roD l with
    | some d => qa3 g (.one (.ifro T d)) o1 []
    | none => none
   | some (.one (.lit v), o1) => qa3 g (.one (.lit (.iface T v))) o1 []
   | _ => none
def qms : SV -> Option (Nat × SV)
 | .one (.ifro T d) => some (T, .agg (roC d))
 | .one (.lit (.iface T v)) => match oneV v with
  | true => some (T, .one (.lit v))
  | false => none
 | _ => none
def qx7 (ok : Ok) (t : TL) (m : ML) (s : Nat) (g : Option Bool) (inp : Inp) (x : Operand) (name : String) (args : List Operand) : Option Eff :=
 match inp with
 | .call c => match opd t g x, qbi t g args with
  | some (v, o1), some (vs, o2) => match qms v with
   | some (T, u) => qa4 ok (app o1 (app o2 [ok.mt T name c.f])) (u :: vs) m s g c (mpM c.pre m (mpSs c.args (u :: vs) []))
   | none => none
  | _, _ => none
 | .sure c => match opd t g x, qbi t g args with
  | some (v, o1), some (vs, o2) => match qms v with
   | some (T, u) => qa4 ok (app o1 (app o2 [ok.mt T name c.f])) (u :: vs) m s none c (mpM c.pre m (mpSs c.args (u :: vs) []))
   | none => none
  | _, _ => none
 | .skip v => match g with
  | some b => some { v := some (.gd false v), wr := [], al := [], use := [], ob := [b = false] }
  | none => none
 | _ => none
def capOf : SV -> Option (Option (Nat × Nat))
 | .one (.box r j) => some (some (r, j))
 | .one (.lit (.pointer none)) => some none
 | _ => none
def qmt (t : TL) (g : Option Bool) : List Operand -> Option (List (Option (Nat × Nat)) × List Prop)
 | [] => some ([], [])
 | x :: l => match opd t g x, qmt t g l with
  | some (v, o1), some (cs, o2) => match capOf v with
   | some c => some (c :: cs, app o1 o2)
   | none => none
  | _, _ => none
def q43 (t : TL) (g : Option Bool) (f : Nat) : List Operand -> Option Eff
 | [] => qa3 g (.one (.lit (.func (.func f) #[] #[]))) [] []
 | x :: l => match qmt t g (x :: l) with
  | some (cs, o1) => qa3 g (.one (.fn f cs)) o1 []
  | none => none
def qx8 (t : TL) (g : Option Bool) (fv : Go.Fn) (first caps : List Operand) : Option Eff :=
 match fv with
 | .func f => match first with
  | [] => q43 t g f caps
  | _ => none
 | _ => none
def zf : List (Option (Nat × Nat)) -> List SV
 | [] => []
 | none :: l => .one (.lit (.pointer none)) :: zf l
 | some (r, j) :: l => .one (.box r j) :: zf l
def qmu : SV -> Option (Nat × List SV)
 | .one (.lit (.func (.func f) ⟨[]⟩ ⟨[]⟩)) => some (f, [])
 | .one (.fn f cs) => some (f, zf cs)
 | _ => none
def qx9 (ok : Ok) (t : TL) (m : ML) (s : Nat) (g : Option Bool) (inp : Inp) (x : Operand) (args : List Operand) : Option Eff :=
 match inp with
 | .call c => match opd t g x, qbi t g args with
  | some (v, o1), some (vs, o2) => match qmu v with
   | some (f, us) => match Nat.beq c.f f with
    | true => qa4 ok (app o1 o2) (app vs us) m s g c (mpM c.pre m (mpSs c.args (app vs us) []))
    | false => none
   | none => none
  | _, _ => none
 | .sure c => match opd t g x, qbi t g args with
  | some (v, o1), some (vs, o2) => match qmu v with
   | some (f, us) => match Nat.beq c.f f with
    | true => qa4 ok (app o1 o2) (app vs us) m s none c (mpM c.pre m (mpSs c.args (app vs us) []))
    | false => none
   | none => none
  | _, _ => none
 | .skip v => match g with
  | some b => some { v := some (.gd false v), wr := [], al := [], use := [], ob := [b = false] }
  | none => none
 | _ => none
def qbk (tt : TT) (ok : Ok) (t : TL) (m : ML) (s : Nat) (g : Option Bool) (inp : Inp) (o : Op) : Option Eff :=
 match o with
 | .move x => qpk t g x
 | .assign x => qpk t g x
 | .pick c x y => qsv t g c x y
 | .alloc T => match g, lk tt T with
  | none, some i => some { v := some (.sv (.one (.box s 0))), wr := [(s, some (.box T (i.z.cells.toList.map .lit)))], al := [s], use := [], ob := [] }
  | _, _ => none
 | .box T x => match g, opd t none x with
  | none, some (v, o1) => some { v := some (.sv (.one (.box s 0))), wr := [(s, some (.box T v.cells))], al := [s], use := [], ob := o1 }
  | _, _ => none
 | .build T ps => qpb tt t g T ps.toList
 | .buildSlice T n ps => qe3 tt t m s g T n ps.toList
 | .slice T x lo hi mx => match mx with
  | none => qpd tt t m s g inp T x lo hi
  | some y => qmp tt t m s g T x lo hi y
 | .load T x => qst tt ok t m g inp T x
 | .store T x y => match g with
  | none => qlx tt t m inp T x y
  | some _ => none
 | .makeSlice T x y => match g with
  | none => qpc tt t s T x y
  | some _ => none
 | .fieldAddr T x f => qhc tt t g T x f
 | .field T x f => qpg tt t g T x f
 | .indexAddr T x y => qhd tt t m g T x y
 | .index T x y => qph tt t g T x y
 | .binOp op T x y _ => qly tt t g op T x y
 | .convert S T x => qpi tt t g S T x
 | .unOp op _ x => evUn t g op x
 | .nilCheck x => que t g x
 | .extract x i => match g with
  | none => qkg t x i
  | some _ => none
 | .call c => match c.callee with
  | .builtin .len => match c.args.toList, c.argTypes.toList with
   | [x], [T] => qpf tt t m g T x
   | _, _ => none
  | .builtin .append => match g, c.args.toList, c.argTypes.toList with
   | none, [x, y], [T, T'] => match Nat.beq T T' with
    | true => qhb tt t m s inp T x y
    | false => qmq tt t s T T' x y
   | _, _, _ => none
  | .builtin .cap => match c.args.toList, c.argTypes.toList with
   | [x], [T] => qpe tt t g T x
   | _, _ => none
  | .builtin .copy => match g, c.args.toList, c.argTypes.toList with
   | none, [x, y], T :: _ => qpj tt t m inp T x y
   | _, _, _ => none
  | .builtin .clear => match g, c.args.toList, c.argTypes.toList with
   | none, [x], [T] => match inp with
    | .nest _ [(a, p)] => qjc tt t m T x a p
    | _ => qlz tt t m T x
   | _, _, _ => none
  | .builtin .min => match c.args.toList with
   | [x, y] => evMM t g true x y
   | _ => none
  | .builtin .max => match c.args.toList with
   | [x, y] => evMM t g false x y
   | _ => none
  | .value (.func f) => qgo ok t m s g inp f c.args.toList
  | .value (.tmp x) => qx9 ok t m s g inp (.tmp x) c.args.toList
  | .invoke x name => qx7 ok t m s g inp x name c.args.toList
  | _ => none
 | .makeInterface T x => qx6 tt t g T x
 | .makeFunc fv first caps => qx8 t g fv first.toList caps.toList
 | _ => none
structure Cx where
 w0 : World
 F : Nat -> Prop
 G : Nat -> Prop
 hF : ∀ b, F b -> G b
 hG : ∀ b, G b -> b < w0.heap.size
 H : Nat -> Prop
 Pt : Nat -> Prop
 hHP : ∀ b, H b -> Pt b
 hPG : ∀ b, Pt b -> G b
 hHF : ∀ b, F b -> ¬ H b
 ds : List Deferred
abbrev Env := Nat -> Option Value
def RdO (w : World) (F : Nat -> Prop) : D -> List Value -> Prop
 | .nil, vs => vs = []
 | .lit x r, vs => ∃ vs', vs = x :: vs' /\ RdO w F r vs'
 | .row _ k n c r, vs => ∃ v vs', vs = v :: vs' /\ RdO w F r vs' ∧
   (((∃ a cap, v = .slice a 0 cap /\ (a = none -> cap = 0)) /\ n = 0 /\ c = .nil) ∨
    ∃ g o cap us, v = .slice (some ⟨g, o, none⟩) n cap /\ n <= cap /\ cap <= maxLen /\ us.length = n * k /\ (∀ j, j < n * k -> w.cell? ⟨g, o + j, none⟩ = us[j]?) /\ (0 < n * k -> F g) /\ RdO w F c us)
theorem qgp {w : World} {F : Nat -> Prop} : ∀ (d : D) {vs : List Value}, RdO w F d vs -> vs.length = d.len
 | .nil, _, h => by rw [h]; rfl
 | .lit _ r, _, h => by obtain ⟨vs', rfl, h⟩ := h; show vs'.length + 1 = _; rw [qgp r h]; rfl
 | .row _ _ _ _ r, _, h => by obtain ⟨v, vs', rfl, h, _⟩ := h; show vs'.length + 1 = _; rw [qgp r h]; rfl
theorem qcj {w w' : World} {F F' : Nat -> Prop} (hs : ∀ b, F b -> w'.heap[b]? = w.heap[b]?) (hF : ∀ b, F b -> F' b) : ∀ (d : D) {vs : List Value}, RdO w F d vs -> RdO w' F' d vs
 | .nil, _, h => h
 | .lit _ r, _, h => by obtain ⟨vs', rfl, h⟩ := h; exact ⟨vs', rfl, qcj hs hF r h⟩
 | .row _ k n c r, _, h => by
  obtain ⟨v, vs', rfl, h, h2⟩ := h
  refine ⟨v, vs', rfl, qcj hs hF r h, ?_⟩
  rcases h2 with h2 | ⟨g, o, cap, us, rfl, h3, h4, h5, h6, h7, h8⟩
  ·exact Or.inl h2
  ·refine Or.inr ⟨g, o, cap, us, rfl, h3, h4, h5, fun j hj => ?_, fun hp => hF g (h7 hp), qcj hs hF c h8⟩
   rw [World.cell?_of_block (w := w) (hs g (h7 (by omega)))]
   exact h6 j hj
theorem qjd {w : World} {F : Nat -> Prop} : ∀ (d : D) {vs : List Value} {bs : List Nat}, Own w d vs bs -> (∀ b ∈ bs, F b) -> RdO w F d vs
 | .nil, _, _, h, _ => h.1
 | .lit _ r, _, _, h, hb => by obtain ⟨vs', rfl, h⟩ := h; exact ⟨vs', rfl, qjd r h hb⟩
 | .row T k n c r, _, _, h, hb => by
  obtain ⟨v, vs', b1, b2, rfl, rfl, h, h2⟩ := h
  refine ⟨v, vs', rfl, qjd r h (fun b h => hb b (by simp [h])), ?_⟩
  rcases h2 with ⟨h3, h4, h5, _⟩ | ⟨g, o, cap, cur, b, rfl, rfl, hg, h3, h4, h5, hc⟩
  ·exact Or.inl ⟨h3.imp fun a e => ⟨0, e, fun _ => rfl⟩, h4, h5⟩
  ·have hle : n * k <= cap * k := Nat.mul_le_mul_right k h3
   have hcl : cur.toList.length = cur.size := Array.length_toList
   refine Or.inr ⟨g, o, cap, _, rfl, h3, h4, ?_, fun j hj => ?_, fun _ => hb g (by simp), qjd c hc (fun x hx => hb x (by simp [hx]))⟩
   ·rw [List.length_take, List.length_drop]; omega
   ·rw [cell_of_block hg, List.getElem?_take, if_pos hj, List.getElem?_drop, Array.getElem?_toList]
theorem qfs {w : World} {F : Nat -> Prop} : ∀ (d e : D) {vs : List Value}, RdO w F (d.app e) vs ↔ ∃ v1 v2, vs = v1 ++ v2 /\ RdO w F d v1 /\ RdO w F e v2
 | .nil, e, vs => by
  constructor
  ·intro h; exact ⟨[], vs, rfl, rfl, h⟩
  ·rintro ⟨v1, v2, rfl, rfl, h⟩; exact h
 | .lit x r, e, vs => by
  constructor
  ·rintro ⟨vs', rfl, h⟩
   obtain ⟨v1, v2, rfl, h1, h2⟩ := (qfs r e).1 h
   exact ⟨x :: v1, v2, rfl, ⟨v1, rfl, h1⟩, h2⟩
  ·rintro ⟨v1, v2, rfl, ⟨v1', rfl, h1⟩, h2⟩
   exact ⟨v1' ++ v2, rfl, (qfs r e).2 ⟨v1', v2, rfl, h1, h2⟩⟩
 | .row T k n c r, e, vs => by
  constructor
  ·rintro ⟨v, vs', rfl, h, h2⟩
   obtain ⟨v1, v2, rfl, h1, h3⟩ := (qfs r e).1 h
   exact ⟨v :: v1, v2, rfl, ⟨v, v1, rfl, h1, h2⟩, h3⟩
  ·rintro ⟨v1, v2, rfl, ⟨v, v1', rfl, h1, h3⟩, h2⟩
   exact ⟨v, v1' ++ v2, rfl, (qfs r e).2 ⟨v1', v2, rfl, h1, h2⟩, h3⟩
theorem quh {w : World} {F : Nat -> Prop} (k : Nat) : ∀ (l : List D) {us : List Value}, (∀ d ∈ l, d.len = k) -> RdO w F (D.cat l) us -> ∀ i d, l[i]? = some d -> RdO w F d ((us.drop (i * k)).take k) /\ i * k + k <= us.length
 | [], _, _, _, i, d, hd => by simp at hd
 | x :: l, us, hk, h, 0, d, hd => by
  obtain rfl := Option.some.inj (show some x = some d from hd)
  obtain ⟨v1, v2, rfl, h1, h2⟩ := (qfs x (D.cat l)).1 h
  have hl1 : v1.length = k := (qgp x h1).trans (hk x (by simp))
  simp only [Nat.zero_mul, List.drop_zero]
  rw [List.take_left' hl1]
  exact ⟨h1, by rw [List.length_append]; omega⟩
 | x :: l, us, hk, h, i + 1, d, hd => by
  obtain ⟨v1, v2, rfl, h1, h2⟩ := (qfs x (D.cat l)).1 h
  have hl1 : v1.length = k := (qgp x h1).trans (hk x (by simp))
  have e1 : (i + 1) * k = v1.length + i * k := by rw [Nat.succ_mul, hl1]; omega
  obtain ⟨g1, g2⟩ := quh k l (fun x hx => hk x (by simp [hx])) h2 i d (by simpa using hd)
  rw [e1, ← List.drop_drop, List.drop_left]
  exact ⟨g1, by rw [List.length_append]; omega⟩
theorem qgq {w : World} {F : Nat -> Prop} {T k n : Nat} {c : D} {v : Value} (h : RdO w F (.row T k n c .nil) [v]) : ∃ A cap, v = .slice A n cap := by
 obtain ⟨v', vs', e1, _, h2⟩ := h
 obtain ⟨rfl, _⟩ := List.cons.inj e1
 rcases h2 with ⟨⟨a0, c0, rfl, _⟩, rfl, _⟩ | ⟨g, o, cap, us, rfl, _⟩
 ·exact ⟨_, _, rfl⟩
 ·exact ⟨_, _, rfl⟩
def qcr (ρ : Env) : List (Option (Nat × Nat)) -> List Value -> Prop
 | [], [] => True
 | none :: l, v :: vs => v = .pointer none /\ qcr ρ l vs
 | some (r, j) :: l, v :: vs => (∃ g, ρ r = some (.pointer (some ⟨g, 0, none⟩)) /\ v = .pointer (some ⟨g, j, none⟩)) /\ qcr ρ l vs
 | _, _ => False
def CRel (X : Cx) (ρ : Env) : CV -> Value -> Prop
 | .lit v, x => x = v /\ v.oneCell' = true
 | .ro T k n c, x => RdO X.w0 X.F (.row T k n c .nil) [x]
 | .hd r, x => ρ r = some x /\ x.oneCell' = true
 | .box r j, x => ∃ g, ρ r = some (.pointer (some ⟨g, 0, none⟩)) /\ x = .pointer (some ⟨g, j, none⟩)
 | .el r k i j, x => ∃ g o n cap, ρ r = some (.slice (some ⟨g, o, none⟩) n cap) /\ x = .pointer (some ⟨g, o + i * k + j, none⟩)
 | .roel T k n c i j, x => ∃ g o cap, RdO X.w0 X.F (.row T k n c .nil) [.slice (some ⟨g, o, none⟩) n cap] /\ x = .pointer (some ⟨g, o + i * k + j, none⟩)
 | .ifro T d, x => ∃ vs : Array Value, x = .iface T (.agg vs) /\ RdO X.w0 X.F d vs.toList /\ ∀ v ∈ vs.toList, v.oneCell' = true
 | .fn f cs, x => ∃ vs : Array Value, x = .func (.func f) #[] vs /\ qcr ρ cs vs.toList
 | .part r k a n, x => ∃ A len cap, ρ r = some (.slice A len cap) /\ x = .slice (if cap = a then A else A.map (·.add (a * k))) n (cap - a) /\ a + n <= len
def qai (X : Cx) (ρ : Env) : List CV -> List Value -> Prop
 | [], [] => True
 | c :: l, v :: vs => CRel X ρ c v /\ qai X ρ l vs
 | _, _ => False
def SRel (X : Cx) (ρ : Env) : SV -> Value -> Prop
 | .one c, x => CRel X ρ c x
 | .agg l, x => ∃ vs : Array Value, x = .agg vs /\ qai X ρ l vs.toList
def qa9 (X : Cx) (ρ : Env) : List SV -> List Value -> Prop
 | [], [] => True
 | c :: l, v :: vs => SRel X ρ c v /\ qa9 X ρ l vs
 | _, _ => False
def TRel (X : Cx) (ρ : Env) : TV -> Value -> Prop
 | .sv s, x => SRel X ρ s x
 | .tup l, x => ∃ vs : Array Value, x = .tuple vs /\ qa9 X ρ l vs.toList
 | .gd b s, x => (b = true -> SRel X ρ s x) /\ (b = false -> x = undef)
def ones : D -> Prop
 | .nil => True
 | .lit v r => v.oneCell' = true /\ ones r
 | .row _ _ _ c r => ones c /\ ones r
def BRel (X : Cx) (ρ : Env) (w : World) (r : Nat) : Blk -> List Nat -> Prop
 | .box T vs, bs => ∃ g cur, ρ r = some (.pointer (some ⟨g, 0, none⟩)) /\ w.heap[g]? = some (.cells cur T (0, 0)) /\ bs = [g] /\ qai X ρ vs cur.toList
 | .row T k l, bs => ∃ x, ρ r = some x /\ Own w (rowC T k l) [x] bs /\ (∀ d ∈ l, d.len = k) /\ ∀ d ∈ l, ones d
 | .pin q x, bs => ρ r = some x /\ ρ q = some x /\ bs = []
 | .rro T k l, bs => ∃ g cur, ρ r = some (.slice (some ⟨g, 0, none⟩) l.length l.length) /\ w.heap[g]? = some (.cells cur T (0, 0)) /\ bs = [g] /\ l.length <= maxLen /\ cur.size = l.length * k /\ (∀ d ∈ l, d.len = k) /\ RdO X.w0 X.F (D.cat l) cur.toList
structure MRelB (X : Cx) (ρ : Env) (w : World) (m : ML) (B : Nat -> List Nat) : Prop where
 blk : ∀ r b, lk m r = some (some b) -> BRel X ρ w r b (B r)
 nd : ∀ r b, lk m r = some (some b) -> (B r).Nodup
 nf : ∀ r b, lk m r = some (some b) -> ∀ x ∈ B r, ¬ X.G x
 dj : ∀ r r' b b', r ≠ r' -> lk m r = some (some b) -> lk m r' = some (some b') -> ∀ x ∈ B r, x ∉ B r'
def MRel (X : Cx) (ρ : Env) (w : World) (m : ML) : Prop := ∃ B, MRelB X ρ w m B
structure WRel (X : Cx) (w : World) : Prop where
 os : w.os = X.w0.os
 tape : w.tape = X.w0.tape
 output : w.output = X.w0.output
 size : X.w0.heap.size <= w.heap.size
 frz : ∀ b, X.G b -> ¬ X.H b -> w.heap[b]? = X.w0.heap[b]?
structure ARel (X : Cx) (ρ : Env) (n : Nat) (t : TL) (a : Act) : Prop where
 size : a.tmps.size = n
 defers : a.defers = X.ds
 at_ : ∀ s v, lk t s = some v -> ∃ x, a.tmps[s]? = some x /\ TRel X ρ v x
structure GlX (X : Cx) (x : Glb) : Prop where
 at_ : X.w0.heap[x.g]? = some (.cells x.cs.toArray x.T x.fz)
 fz : X.G x.g
 nh : ¬ X.H x.g
def Ext (ρ ρ' : Env) : Prop := ∀ r x, ρ r = some x -> ρ' r = some x
theorem Ext.refl (ρ : Env) : Ext ρ ρ := fun _ _ h => h
theorem qcr.ext {ρ ρ' : Env} (he : Ext ρ ρ') : ∀ {l : List (Option (Nat × Nat))} {vs : List Value}, qcr ρ l vs -> qcr ρ' l vs
 | [], [], _ => trivial
 | none :: _, _ :: _, h => ⟨h.1, qcr.ext he h.2⟩
 | some _ :: _, _ :: _, h => by obtain ⟨⟨g, h1, h2⟩, h3⟩ := h; exact ⟨⟨g, he _ _ h1, h2⟩, qcr.ext he h3⟩
 | [], _ :: _, h => h.elim
 | none :: _, [], h => h.elim
 | some _ :: _, [], h => h.elim
theorem CRel.ext {X : Cx} {ρ ρ' : Env} (he : Ext ρ ρ') : ∀ {c : CV} {x : Value}, CRel X ρ c x -> CRel X ρ' c x
 | .lit _, _, h => h
 | .ro .., _, h => h
 | .hd r, _, h => ⟨he _ _ h.1, h.2⟩
 | .box r j, _, ⟨g, h1, h2⟩ => ⟨g, he _ _ h1, h2⟩
 | .el r k i j, _, ⟨g, o, n, cap, h1, h2⟩ => ⟨g, o, n, cap, he _ _ h1, h2⟩
 | .roel .., _, h => h
 | .ifro .., _, h => h
 | .fn .., _, ⟨vs, h1, h2⟩ => ⟨vs, h1, h2.ext he⟩
 | .part .., _, ⟨A, len, cap, h1, h2⟩ => ⟨A, len, cap, he _ _ h1, h2⟩
theorem qai.ext {X : Cx} {ρ ρ' : Env} (he : Ext ρ ρ') : ∀ {l : List CV} {vs : List Value}, qai X ρ l vs -> qai X ρ' l vs
 | [], [], _ => trivial
 | _ :: _, _ :: _, h => ⟨h.1.ext he, qai.ext he h.2⟩
 | [], _ :: _, h => h.elim
 | _ :: _, [], h => h.elim
theorem SRel.ext {X : Cx} {ρ ρ' : Env} (he : Ext ρ ρ') : ∀ {s : SV} {x : Value}, SRel X ρ s x -> SRel X ρ' s x
 | .one _, _, h => CRel.ext he h
 | .agg _, _, ⟨vs, h1, h2⟩ => ⟨vs, h1, h2.ext he⟩
theorem qa9.ext {X : Cx} {ρ ρ' : Env} (he : Ext ρ ρ') : ∀ {l : List SV} {vs : List Value}, qa9 X ρ l vs -> qa9 X ρ' l vs
 | [], [], _ => trivial
 | _ :: _, _ :: _, h => ⟨h.1.ext he, qa9.ext he h.2⟩
 | [], _ :: _, h => h.elim
 | _ :: _, [], h => h.elim
theorem TRel.ext {X : Cx} {ρ ρ' : Env} (he : Ext ρ ρ') : ∀ {v : TV} {x : Value}, TRel X ρ v x -> TRel X ρ' v x
 | .sv _, _, h => SRel.ext he h
 | .tup _, _, ⟨vs, h1, h2⟩ => ⟨vs, h1, h2.ext he⟩
 | .gd _ _, _, h => ⟨fun hb => SRel.ext he (h.1 hb), h.2⟩
theorem qai.len {X : Cx} {ρ : Env} : ∀ {l : List CV} {vs : List Value}, qai X ρ l vs -> l.length = vs.length
 | [], [], _ => rfl
 | _ :: _, _ :: _, h => by simp [qai.len h.2]
 | [], _ :: _, h => h.elim
 | _ :: _, [], h => h.elim
theorem qft {α : Type} : ∀ l : List α, lenL l = l.length
 | [] => rfl
 | _ :: l => by simp [lenL, qft l]
theorem qfh {w : World} {T k n : Nat} {c : D} {v : Value} {bs : List Nat} (h : Own w (.row T k n c .nil) [v] bs) : ∃ A cap, v = .slice A n cap := by
 obtain ⟨v', vs', b1, b2, e1, e2, _, h2⟩ := h
 obtain ⟨rfl, _⟩ := List.cons.inj e1
 rcases h2 with ⟨⟨a0, rfl⟩, rfl, _⟩ | ⟨g, o, cap, cur, b, rfl, _⟩
 ·exact ⟨_, _, rfl⟩
 ·exact ⟨_, _, rfl⟩
theorem CRel.one {X : Cx} {ρ : Env} : ∀ {c : CV} {x : Value}, CRel X ρ c x -> x.oneCell' = true
 | .lit _, _, h => by rw [h.1]; exact h.2
 | .ro T k n c, x, h => by
  have h' : RdO X.w0 X.F (.row T k n c .nil) [x] := h
  obtain ⟨A, cap, rfl⟩ := qgq h'; rfl
 | .hd r, _, h => h.2
 | .box r j, _, ⟨g, h1, h2⟩ => by rw [h2]; rfl
 | .el r k i j, _, ⟨g, o, n, cap, h1, h2⟩ => by rw [h2]; rfl
 | .roel .., _, ⟨g, o, cap, _, h2⟩ => by rw [h2]; rfl
 | .ifro .., _, ⟨vs, h2, _⟩ => by rw [h2]; rfl
 | .fn .., _, ⟨vs, h2, _⟩ => by rw [h2]; rfl
 | .part .., _, ⟨A, len, cap, _, h2, _⟩ => by rw [h2]; rfl
theorem qai.one {X : Cx} {ρ : Env} : ∀ {l : List CV} {vs : List Value}, qai X ρ l vs -> ∀ v ∈ vs, v.oneCell' = true
 | [], [], _ => by simp
 | _ :: _, _ :: _, h => by
  intro v hv
  rw [List.mem_cons] at hv
  rcases hv with rfl | hv
  ·exact h.1.one
  ·exact qai.one h.2 v hv
 | [], _ :: _, h => h.elim
 | _ :: _, [], h => h.elim
theorem cells_one {x : Value} (h : x.oneCell' = true) : x.cells = #[x] := by cases x <;> first | rfl | cases h
theorem SRel.cells {X : Cx} {ρ : Env} : ∀ {s : SV} {x : Value}, SRel X ρ s x -> qai X ρ s.cells x.cells.toList
 | .one c, x, h => by rw [cells_one (CRel.one h)]; exact ⟨h, trivial⟩
 | .agg l, x, ⟨vs, h1, h2⟩ => by subst h1; exact h2
theorem jo {α : Type} (k : Nat) (v : α) (l : List (Nat × α)) (n : Nat) : lk ((k, v) :: l) n = if k = n then some v else lk l n := by
 show (match Nat.beq k n with | true => some v | false => lk l n) = _
 by_cases h : k = n
 ·subst h; simp
 ·rw [if_neg h]
  have : Nat.beq k n = false := by rw [← Bool.not_eq_true, Nat.beq_eq]; exact h
  rw [this]
theorem qan {α : Type} : ∀ l m : List α, app l m = l ++ m
 | [], _ => rfl
 | a :: l, m => by show a :: app l m = _; rw [qan l m]; rfl
theorem qx {l m : List Prop} : All (app l m) ↔ All l /\ All m := by
 induction l with
 | nil => simp [app, All]
 | cons p l ih => show (p /\ All (app l m)) ↔ (p /\ All l) /\ All m; rw [ih, and_assoc]
theorem qmv {α : Type} : ∀ (l : List α) (n : Nat), nth l n = l[n]?
 | [], n => by simp [nth]
 | a :: l, 0 => by simp [nth]
 | a :: l, n + 1 => by simp [nth, qmv l n]
theorem qf9 {α : Type} : ∀ (n : Nat) (l : List α), qik n l = l.drop n
 | 0, l => by simp [qik]
 | n + 1, [] => by simp [qik]
 | n + 1, a :: l => by simp [qik, qf9 n l]
theorem qga {α : Type} : ∀ (n : Nat) (l m : List α), qha n l = some m -> m = l.take n /\ n <= l.length
 | 0, l, m, h => by simp [qha] at h; simp [h]
 | n + 1, [], m, h => by simp [qha] at h
 | n + 1, a :: l, m, h => by
  unfold qha at h
  cases h1 : qha n l with
  | none => rw [h1] at h; cases h
  | some q =>
   rw [h1] at h
   obtain ⟨rfl, h2⟩ := qga n l q h1
   obtain rfl := Option.some.inj h
   simp; omega
theorem ql0 {α : Type} : ∀ (n : Nat) (xs l m : List α), putL n xs l = some m -> m = l.take n ++ (xs ++ l.drop (n + xs.length)) /\ n + xs.length <= l.length
 | 0, [], l, m, h => by simp [putL] at h; simp [h]
 | 0, x :: xs, [], m, h => by simp [putL] at h
 | 0, x :: xs, a :: l, m, h => by
  unfold putL at h
  cases h1 : putL 0 xs l with
  | none => rw [h1] at h; cases h
  | some q =>
   rw [h1] at h
   obtain ⟨rfl, h2⟩ := ql0 0 xs l q h1
   obtain rfl := Option.some.inj h
   simp at h2 ⊢
   exact h2
 | n + 1, xs, [], m, h => by simp [putL] at h
 | n + 1, xs, a :: l, m, h => by
  unfold putL at h
  cases h1 : putL n xs l with
  | none => rw [h1] at h; cases h
  | some q =>
   rw [h1] at h
   obtain ⟨rfl, h2⟩ := ql0 n xs l q h1
   obtain rfl := Option.some.inj h
   have e : n + 1 + xs.length = (n + xs.length) + 1 := by omega
   simp [e]; omega
theorem qai.take {X : Cx} {ρ : Env} : ∀ (n : Nat) {l : List CV} {vs : List Value}, qai X ρ l vs -> qai X ρ (l.take n) (vs.take n)
 | 0, _, _, _ => by simp [qai]
 | n + 1, [], [], _ => by simp [qai]
 | n + 1, _ :: _, _ :: _, h => ⟨h.1, qai.take n h.2⟩
 | _ + 1, [], _ :: _, h => h.elim
 | _ + 1, _ :: _, [], h => h.elim
theorem qai.drop {X : Cx} {ρ : Env} : ∀ (n : Nat) {l : List CV} {vs : List Value}, qai X ρ l vs -> qai X ρ (l.drop n) (vs.drop n)
 | 0, _, _, h => by simpa using h
 | n + 1, [], [], _ => by simp [qai]
 | n + 1, _ :: _, _ :: _, h => by simpa using qai.drop n h.2
 | _ + 1, [], _ :: _, h => h.elim
 | _ + 1, _ :: _, [], h => h.elim
theorem qai.append {X : Cx} {ρ : Env} : ∀ {l m : List CV} {vs us : List Value}, qai X ρ l vs -> qai X ρ m us -> qai X ρ (l ++ m) (vs ++ us)
 | [], _, [], _, _, h => h
 | _ :: _, _, _ :: _, _, h, h' => ⟨h.1, h.2.append h'⟩
 | [], _, _ :: _, _, h, _ => h.elim
 | _ :: _, _, [], _, h, _ => h.elim
theorem qai.lits {X : Cx} {ρ : Env} : ∀ {l : List Value}, (∀ v ∈ l, v.oneCell' = true) -> qai X ρ (l.map .lit) l
 | [], _ => trivial
 | v :: l, h => ⟨⟨rfl, h v (by simp)⟩, qai.lits (fun x hx => h x (by simp [hx]))⟩
theorem ARel.ext {X : Cx} {ρ ρ' : Env} {n : Nat} {t : TL} {a : Act} (h : ARel X ρ n t a) (he : Ext ρ ρ') : ARel X ρ' n t a :=
 ⟨h.size, h.defers, fun s v hs => let ⟨x, h1, h2⟩ := h.at_ s v hs; ⟨x, h1, h2.ext he⟩⟩
theorem ARel.put {X : Cx} {ρ : Env} {n : Nat} {t : TL} {a : Act} (h : ARel X ρ n t a) {s : Nat} (hs : s < n) {v : TV} {x : Value} (hv : TRel X ρ v x) : ARel X ρ n ((s, v) :: t) (a.put (some s) x) := by
 refine ⟨by show (a.tmps.setIfInBounds s x).size = n; rw [Array.size_setIfInBounds]; exact h.size, h.defers, fun q u hq => ?_⟩
 rw [jo] at hq
 by_cases e : s = q
 ·subst e
  rw [if_pos rfl] at hq
  obtain rfl := Option.some.inj hq
  exact ⟨x, by show (a.tmps.setIfInBounds s x)[s]? = _; rw [Array.getElem?_setIfInBounds_self_of_lt (by rw [h.size]; exact hs)], hv⟩
 ·rw [if_neg e] at hq
  obtain ⟨y, h1, h2⟩ := h.at_ q u hq
  exact ⟨y, by show (a.tmps.setIfInBounds s x)[q]? = _; rw [Array.getElem?_setIfInBounds_ne (by omega)]; exact h1, h2⟩
theorem BRel.lt {X : Cx} {ρ : Env} {w : World} {r : Nat} : ∀ {b : Blk} {bs : List Nat}, BRel X ρ w r b bs -> ∀ x ∈ bs, x < w.heap.size
 | .box T vs, bs, h => by obtain ⟨g, cur, _, hg, rfl, _⟩ := h; intro x hx; obtain rfl : x = g := by simpa using hx
                          exact lt_of_block hg
 | .row T k l, bs, ⟨x, _, ho, _⟩ => qir _ ho
 | .pin q x, bs, h => by obtain ⟨_, _, rfl⟩ := h; simp
 | .rro T k l, bs, h => by obtain ⟨g, cur, _, hg, rfl, _⟩ := h; intro x hx; obtain rfl : x = g := by simpa using hx
                           exact lt_of_block hg
theorem BRel.same {X : Cx} {ρ ρ' : Env} {w w' : World} {r : Nat} (he : Ext ρ ρ') : ∀ {b : Blk} {bs : List Nat}, BRel X ρ w r b bs -> (∀ x ∈ bs, w'.heap[x]? = w.heap[x]?) -> BRel X ρ' w' r b bs
 | .box T vs, bs, h, hs => by obtain ⟨g, cur, h1, hg, rfl, h2⟩ := h; exact ⟨g, cur, he _ _ h1, (hs g (by simp)).trans hg, rfl, h2.ext he⟩
 | .row T k l, bs, ⟨x, h1, ho, h2⟩, hs => ⟨x, he _ _ h1, qbo _ ho hs, h2⟩
 | .pin q x, bs, h, hs => ⟨he _ _ h.1, he _ _ h.2.1, h.2.2⟩
 | .rro T k l, bs, h, hs => by obtain ⟨g, cur, h1, hg, rfl, h2⟩ := h; exact ⟨g, cur, he _ _ h1, (hs g (by simp)).trans hg, rfl, h2⟩
theorem MRelB.upd {X : Cx} {ρ ρ' : Env} {w w' : World} {m m' : ML} {B : Nat -> List Nat} (hM : MRelB X ρ w m B) (he : Ext ρ ρ') (r : Nat) (b : Blk) (bs : List Nat) (tk : List Nat)
  (htk : ∀ q ∈ tk, ∃ bq, lk m q = some (some bq)) (hb : BRel X ρ' w' r b bs) (hnd : bs.Nodup) (hsrc : ∀ x ∈ bs, (∃ q ∈ tk, x ∈ B q) ∨ w.heap.size <= x)
  (hF : ∀ x, X.G x -> x < w.heap.size) (hw : ∀ x, x < w.heap.size -> (∀ q ∈ tk, x ∉ B q) -> w'.heap[x]? = w.heap[x]?)
  (hm : ∀ q bq, lk m' q = some (some bq) -> (q = r /\ bq = b) ∨ (q ≠ r /\ q ∉ tk /\ lk m q = some (some bq))) :
  MRelB X ρ' w' m' (fun q => if q = r then bs else B q) := by
 have far : ∀ q bq, lk m q = some (some bq) -> q ∉ tk -> ∀ x ∈ B q, ∀ q' ∈ tk, x ∉ B q' := by
  intro q bq hq hqt x hx q' hq' hx'
  obtain ⟨b', hb'⟩ := htk q' hq'
  exact hM.dj q q' bq b' (fun e => hqt (e ▸ hq')) hq hb' x hx hx'
 refine ⟨?_, ?_, ?_, ?_⟩
 ·intro q bq hq
  rcases hm q bq hq with ⟨rfl, rfl⟩ | ⟨h1, h2, h3⟩
  ·simp only [if_pos rfl]; exact hb
  ·simp only [if_neg h1]
   exact (hM.blk q bq h3).same he (fun x hx => hw x ((hM.blk q bq h3).lt x hx) (far q bq h3 h2 x hx))
 ·intro q bq hq
  rcases hm q bq hq with ⟨rfl, rfl⟩ | ⟨h1, h2, h3⟩
  ·simp only [if_pos rfl]; exact hnd
  ·simp only [if_neg h1]; exact hM.nd q bq h3
 ·intro q bq hq
  rcases hm q bq hq with ⟨rfl, rfl⟩ | ⟨h1, h2, h3⟩
  ·simp only [if_pos rfl]
   intro x hx hxF
   rcases hsrc x hx with ⟨q', hq', hx'⟩ | h
   ·obtain ⟨b', hb'⟩ := htk q' hq'; exact hM.nf q' b' hb' x hx' hxF
   ·have := hF x hxF; omega
  ·simp only [if_neg h1]; exact hM.nf q bq h3
 ·intro q q' bq bq' hne hq hq'
  rcases hm q bq hq with ⟨rfl, rfl⟩ | ⟨h1, h2, h3⟩
  ·rcases hm q' bq' hq' with ⟨rfl, rfl⟩ | ⟨g1, g2, g3⟩
   ·exact absurd rfl hne
   ·simp only [if_pos rfl, if_neg g1]
    intro x hx hx'
    rcases hsrc x hx with ⟨p, hp, hxp⟩ | h
    ·exact far q' bq' g3 g2 x hx' p hp hxp
    ·have := (hM.blk q' bq' g3).lt x hx'; omega
  ·rcases hm q' bq' hq' with ⟨rfl, rfl⟩ | ⟨g1, g2, g3⟩
   ·simp only [if_pos rfl, if_neg h1]
    intro x hx hx'
    rcases hsrc x hx' with ⟨p, hp, hxp⟩ | h
    ·exact far q bq h3 h2 x hx p hp hxp
    ·have := (hM.blk q bq h3).lt x hx; omega
   ·simp only [if_neg h1, if_neg g1]
    exact hM.dj q q' bq bq' hne h3 g3
theorem MRelB.less {X : Cx} {ρ ρ' : Env} {w w' : World} {m m' : ML} {B : Nat -> List Nat} (hM : MRelB X ρ w m B) (he : Ext ρ ρ') (hw : ∀ x, x < w.heap.size -> w'.heap[x]? = w.heap[x]?)
  (hm : ∀ q bq, lk m' q = some (some bq) -> lk m q = some (some bq)) : MRelB X ρ' w' m' B :=
 ⟨fun q bq hq => (hM.blk q bq (hm q bq hq)).same he (fun x hx => hw x ((hM.blk q bq (hm q bq hq)).lt x hx)), fun q bq hq => hM.nd q bq (hm q bq hq), fun q bq hq => hM.nf q bq (hm q bq hq),
  fun q q' bq bq' hne hq hq' => hM.dj q q' bq bq' hne (hm q bq hq) (hm q' bq' hq')⟩
theorem WRel.lt {X : Cx} {w : World} (h : WRel X w) : ∀ x, X.G x -> x < w.heap.size := fun x hx => Nat.lt_of_lt_of_le (X.hG x hx) h.size
theorem WRel.upd {X : Cx} {w w' : World} (h : WRel X w) (ho : w'.os = w.os) (ht : w'.tape = w.tape) (hp : w'.output = w.output) (hs : w.heap.size <= w'.heap.size) (hf : ∀ b, X.G b -> w'.heap[b]? = w.heap[b]?) : WRel X w' :=
 ⟨ho.trans h.os, ht.trans h.tape, hp.trans h.output, Nat.le_trans h.size hs, fun b hb hh => (hf b hb).trans (h.frz b hb hh)⟩
theorem MRel.aside {X : Cx} {ρ : Env} {w w₁ : World} {m : ML} (h : MRel X ρ w m) (ha : Co.Aside X.H w w₁) : MRel X ρ w₁ m := by
 obtain ⟨B, hB⟩ := h
 exact ⟨B, fun q b hq => (hB.blk q b hq).same (Ext.refl ρ) (fun x hx => ha.blk x (fun hh => hB.nf q b hq x hx (X.hPG x (X.hHP x hh)))), hB.nd, hB.nf, hB.dj⟩
theorem WRel.aside {X : Cx} {w w₁ : World} (h : WRel X w) (ha : Co.Aside X.H w w₁) : WRel X w₁ :=
 ⟨ha.os.trans h.os, ha.tape.trans h.tape, ha.output.trans h.output, by rw [ha.size]; exact h.size, fun b hb hh => (ha.blk b hh).trans (h.frz b hb hh)⟩
theorem qkh {X : Cx} {w : World} (hW : WRel X w) {d : D} {vs : List Value} (h : RdO X.w0 X.F d vs) : RdO w X.F d vs := qcj (fun b hb => hW.frz b (X.hF b hb) (X.hHF b hb)) (fun _ h => h) _ h
def qgr : TypeDesc -> Bool
 | .struct _ => true
 | .array _ _ => true
 | _ => false
def shD : Option IntKind -> TypeDesc
 | some k => .int k
 | none => .bool
def shL : Nat -> List (Option IntKind) -> List (Bool × Option TypeDesc × Nat)
 | _, [] => []
 | o, x :: l => (true, some (shD x), o) :: shL (o + 1) l
structure TIok (P : Program) (T : Nat) (i : TI) : Prop where
 und : P.underlying T = some i.desc
 info : (P.info? T).map (fun i => (i.zero, i.size, i.bytes)) = some (some i.z, i.size, i.bytes)
 z1 : i.z.cells.toList.all (·.oneCell') = true
 zs : i.z.cells.size = i.size
 flds : ∀ fields, i.desc = .struct fields -> fields.toList.map (fun f => (f.offset, (P.info? f.type).map (·.size), (P.underlying f.type).map qgr)) = i.fs.map (fun x => (x.1, some x.2.1, some x.2.2))
 eqok : ∀ sh, i.eqs = some sh -> P.stoodInHeld T = false /\ P.eqGuardType P.depth T = false /\ P.underlying T = some (.struct (P.fieldsOf T)) /\ (P.fieldsOf T).toList.map (fun f => (f.name != "_", P.underlying f.type, f.offset)) = shL 0 sh
def TTok (P : Program) (tt : TT) : Prop := ∀ T i, lk tt T = some i -> TIok P T i
theorem TTok.nil (P : Program) : TTok P [] := fun _ _ h => by cases h
theorem TTok.cons {P : Program} {T : Nat} {i : TI} {tt : TT} (h : TIok P T i) (ht : TTok P tt) : TTok P ((T, i) :: tt) := by
 intro T' i' h'
 rw [jo] at h'
 by_cases e : T = T'
 ·subst e; rw [if_pos rfl] at h'; obtain rfl := Option.some.inj h'; exact h
 ·rw [if_neg e] at h'; exact ht _ _ h'
theorem TIok.size {P : Program} {T : Nat} {i : TI} (h : TIok P T i) : (P.info? T).map (·.size) = some i.size := by
 have := h.info
 cases hq : P.info? T with
 | none => simp [hq] at this
 | some j => simp [hq] at this; simp [this]
theorem TIok.parts {P : Program} {T : Nat} {i : TI} (h : TIok P T i) : ∃ j, P.info? T = some j /\ j.zero = some i.z /\ j.size = i.size /\ j.bytes = i.bytes := info_parts h.info
theorem qmw (i : TI) : i.isAgg = qgr i.desc := by unfold TI.isAgg qgr; rfl
theorem qsw {d : TypeDesc} (h : qgr d = true) : d.isRow = true := by cases d <;> first | rfl | cases h
def VRel (X : Cx) (ρ : Env) : Option TV -> Next -> Prop
 | some v, .value x => TRel X ρ v x
 | none, .skip => True
 | _, _ => False
def Runs (P : Program) (X : Cx) (ρ : Env) (w : World) (m : ML) (al : List Nat) (s : Sem Next) (v : Option TV) (wr : ML) : Prop :=
 ∃ nx w' ρ', s.run P w = .ok nx w' /\ VRel X ρ' v nx /\ Ext ρ ρ' /\ (∀ r y, ρ' r = some y -> ρ r = some y ∨ r ∈ al) /\ MRel X ρ' w' (app wr m) /\ WRel X w'
theorem Runs.pure {P : Program} {X : Cx} {ρ : Env} {w : World} {m : ML} {al : List Nat} {s : Sem Next} {v : TV} {x : Value} (h : s.run P w = .ok (.value x) w) (hv : TRel X ρ v x) (hM : MRel X ρ w m) (hW : WRel X w) : Runs P X ρ w m al s (some v) [] :=
 ⟨_, w, ρ, h, hv, Ext.refl ρ, fun _ _ h => .inl h, hM, hW⟩
def GT (g : Option Bool) : Prop := ∀ b, g = some b -> b = true
theorem qv4 {X : Cx} {ρ : Env} {g : Option Bool} {v : TV} {s : SV} {ob : List Prop} {x : Value} (h : unG g v = some (s, ob)) (ho : All ob) (hg : GT g) (hv : TRel X ρ v x) : SRel X ρ s x := by
 cases v with
 | sv v => simp [unG] at h; obtain ⟨rfl, rfl⟩ := h; exact hv
 | tup l => cases h
 | gd b v =>
  cases g with
  | none => cases h
  | some g' =>
   simp [unG] at h
   obtain ⟨rfl, rfl⟩ := h
   exact hv.1 (ho.1 ▸ hg g' rfl)
theorem qw {X : Cx} {ρ : Env} {n : Nat} {t : TL} {a : Act} {g : Option Bool} {x : Operand} {s : SV} {ob : List Prop} (h : opd t g x = some (s, ob)) (ho : All ob) (hg : GT g) (hA : ARel X ρ n t a) : SRel X ρ s (a.eval x) := by
 cases x with
 | tmp q =>
  change (match lk t q with | some v => unG g v | none => none) = some (s, ob) at h
  cases hq : lk t q with
  | none => rw [hq] at h; cases h
  | some v =>
   rw [hq] at h
   obtain ⟨y, h1, h2⟩ := hA.at_ q v hq
   have : a.eval (.tmp q) = y := by show a.tmps.getD q undef = y; simp [Array.getD_eq_getD_getElem?, h1]
   rw [this]
   exact qv4 h ho hg h2
 | const v =>
  cases v <;> simp [opd] at h <;> (try (obtain ⟨rfl, rfl⟩ := h; exact ⟨rfl, rfl⟩))
 | global q => simp [opd] at h; obtain ⟨rfl, rfl⟩ := h; exact ⟨rfl, rfl⟩
 | func f => simp [opd] at h; obtain ⟨rfl, rfl⟩ := h; exact ⟨rfl, rfl⟩
theorem qck {X : Cx} {ρ : Env} {g : Option Bool} {s : SV} {x : Value} (hg : GT g) (h : SRel X ρ s x) : TRel X ρ (jh g s) x := by
 cases g with
 | none => exact h
 | some b => exact ⟨fun _ => h, fun hb => by rw [hg b rfl] at hb; cases hb⟩
theorem qcf {g : Option Bool} {ob : List Prop} (h : All (gOb g ob)) (hg : GT g) : All ob := by
 cases g with
 | none => exact h
 | some b =>
  cases ob with
  | nil => trivial
  | cons p l => exact h.1 (hg b rfl)
section
variable {P : Program} {X : Cx} {ρ : Env} {w : World} {m : ML} {tt : TT} {t : TL} {n : Nat} {a : Act} {g : Option Bool}
theorem jl {s : Sem Next} {v : SV} {o1 ob : List Prop} {e : Eff} {x : Value} (he : qa3 g v o1 ob = some e) (ho : All e.ob) (hg : GT g) (hM : MRel X ρ w m) (hW : WRel X w)
  (h : All o1 -> All ob -> s.run P w = .ok (.value x) w /\ SRel X ρ v x) : Runs P X ρ w m e.al s e.v e.wr := by
 simp [qa3] at he
 subst he
 rw [qx] at ho
 obtain ⟨h1, h2⟩ := h ho.1 (qcf ho.2 hg)
 exact Runs.pure h1 (qck hg h2) hM hW
theorem qmx {o : Oper} {x : Operand} (ho : o.op = .move x ∨ o.op = .assign x) {e : Eff} (he : qpk t g x = some e) (hob : All e.ob) (hg : GT g) (hA : ARel X ρ n t a) (hM : MRel X ρ w m) (hW : WRel X w) :
  Runs P X ρ w m e.al (execOp a.eval o) e.v e.wr := by
 have hr : (execOp a.eval o).run P w = .ok (.value (a.eval x)) w := by rcases ho with ho | ho <;> simp [execOp, ho]
 have gen : ∀ {e : Eff} (_ : (match opd t g x with | some (v, o1) => qa3 g v o1 [] | none => none) = some e) (_ : All e.ob), Runs P X ρ w m e.al (execOp a.eval o) e.v e.wr := by
  intro e he hob
  cases hx : opd t g x with
  | none => rw [hx] at he; cases he
  | some p =>
   obtain ⟨v, o1⟩ := p
   rw [hx] at he
   exact jl he hob hg hM hW (fun h1 _ => ⟨hr, qw hx h1 hg hA⟩)
 unfold qpk at he
 split at he
 ·rename_i s
  split at he
  ·rename_i l hl
   obtain rfl := Option.some.inj he
   obtain ⟨y, h1, h2⟩ := hA.at_ s _ hl
   have : a.eval (.tmp s) = y := by show a.tmps.getD s undef = y; simp [Array.getD_eq_getD_getElem?, h1]
   rw [this] at hr
   exact Runs.pure hr h2 hM hW
  ·exact gen he hob
 ·exact gen he hob
theorem qv5 {o : Oper} {x : Operand} (ho : o.op = .nilCheck x) {e : Eff} (he : que t g x = some e) (hob : All e.ob) (hg : GT g) (hA : ARel X ρ n t a) (hM : MRel X ρ w m) (hW : WRel X w) :
  Runs P X ρ w m e.al (execOp a.eval o) e.v e.wr := by
 unfold que at he
 split at he
 ·rename_i r j o1 hx
  refine jl (x := a.eval x) he hob hg hM hW (fun h1 _ => ?_)
  have hv := qw hx h1 hg hA
  refine ⟨?_, hv⟩
  obtain ⟨y, _, hy⟩ := hv
  simp [execOp, ho, hy]
 ·cases he
theorem qje {k k' : IntKind} (h : qqo k k' = true) : k = k' := by cases k <;> cases k' <;> first | rfl | cases h
theorem q1x {op : BinOp} {T : Nat} {k : IntKind} {p q : Int} {v : Value} {ob : List Prop} (hv : qx4 op k p q = some (v, ob)) (h2 : All ob) (w : World) : (binOp op T (.int k p) (.int k q)).run P w = .ok v w /\ v.oneCell' = true := by
 cases op <;> simp [qx4] at hv <;> obtain ⟨rfl, rfl⟩ := hv <;> (try simp only [All, inK] at h2) <;> refine ⟨?_, rfl⟩ <;> simp [binOp, Op.intArith, Op.intCmp, Op.intDiv, Op.intBits, h2]
theorem qqp {i : TI} {T : Nat} {u v : Value} {b : Bool} {ob : List Prop} (hti : TIok P T i) (hn : nilV i.desc u v = some (b, ob)) (ho : All ob) (w : World) :
  (Op.equal T u v).run P w = .ok b w /\ (∀ op, op = .eql ∨ op = .neq -> binOp op T u v = if op = .eql then (do pure (.bool (← Op.equal T u v))) else (do pure (.bool (!(← Op.equal T u v))))) := by
 unfold nilV at hn
 split at hn
 ·rename_i ms hms
  simp at hn
  obtain ⟨rfl, rfl⟩ := hn
  have hu : (underlying T).run P w = .ok (.interface ms) w := by rw [run_underlying hti.und w, hms]
  have h1 := ho.1
  cases u <;> first | exact h1.elim | skip
  all_goals
   refine ⟨?_, fun op hop => by rcases hop with rfl | rfl <;> rfl⟩
   show (Op.equalIn (9999 + 1) T _ _).run P w = _
   rw [Op.equalIn]
   simp [hu, qg]
 ·rename_i e hms
  have hu : (underlying T).run P w = .ok (.slice e) w := by rw [run_underlying hti.und w, hms]
  split at hn
  ·rename_i a n c
   simp at hn
   obtain ⟨rfl, rfl⟩ := hn
   refine ⟨?_, fun op hop => by rcases hop with rfl | rfl <;> rfl⟩
   show (Op.equalIn (9999 + 1) T _ _).run P w = _
   rw [Op.equalIn]
   cases a <;> simp [hu]
  ·cases hn
 ·rename_i e hms
  have hu : (underlying T).run P w = .ok (.pointer e) w := by rw [run_underlying hti.und w, hms]
  split at hn
  ·rename_i a
   simp at hn
   obtain ⟨rfl, rfl⟩ := hn
   refine ⟨?_, fun op hop => by rcases hop with rfl | rfl <;> rfl⟩
   show (Op.equalIn (9999 + 1) T _ _).run P w = _
   rw [Op.equalIn]
   cases a <;> simp [hu]
  ·cases hn
 ·cases hn
theorem q1y {op : BinOp} {T : Nat} {u v r : Value} {ob : List Prop} (htt : TTok P tt) (h : nilB tt op T u v = some (r, ob)) (ho : All ob) (w : World) :
  (binOp op T u v).run P w = .ok r w /\ r.oneCell' = true := by
 unfold nilB at h
 split at h
 ·rename_i i hT
  split at h
  ·rename_i b ob' hn
   simp at h
   obtain ⟨rfl, rfl⟩ := h
   obtain ⟨h1, h2⟩ := qqp (htt T i hT) hn ho w
   rw [h2 _ (.inl rfl), if_pos rfl]
   exact ⟨by simp [h1], rfl⟩
  ·rename_i b ob' hn
   simp at h
   obtain ⟨rfl, rfl⟩ := h
   obtain ⟨h1, h2⟩ := qqp (htt T i hT) hn ho w
   rw [h2 _ (.inr rfl), if_neg (by simp)]
   exact ⟨by simp [h1], rfl⟩
  ·cases h
 ·cases h
theorem qim {T : Nat} (h : P.underlying T = some .bool) (p q : Bool) (w : World) : (Op.equal T (.bool p) (.bool q)).run P w = .ok (p == q) w := by
 show (Op.equalIn (9999 + 1) T _ _).run P w = _
 rw [Op.equalIn]
 simp [run_underlying h]
theorem qdk {T : Nat} {ag : Bool} (h : (P.underlying T).map qgr = some ag) (w : World) : (isAgg T).run P w = .ok ag w := by
 cases hq : P.underlying T with
 | none => simp [hq] at h
 | some d =>
  simp [hq] at h
  unfold isAgg
  rw [Sem.run_bind, run_underlying hq w]
  subst h
  cases d <;> rfl
theorem qv6 {x : Option IntKind} {sh : List (Option IntKind)} {l l' : List CV} {r : Bool} (h : qhe (x :: sh) l l' = some r) :
  (∃ k a b l1 l2 r', x = some k /\ l = .lit (.int k a) :: l1 /\ l' = .lit (.int k b) :: l2 /\ qhe sh l1 l2 = some r' /\ r = ((a == b) && r')) ∨ ∃ a b l1 l2 r', x = none /\ l = .lit (.bool a) :: l1 /\ l' = .lit (.bool b) :: l2 /\ qhe sh l1 l2 = some r' /\ r = ((a == b) && r') := by
 cases x with
 | some k =>
  match l, l', h with
  | .lit (.int k1 a) :: l1, .lit (.int k2 b) :: l2, h =>
   simp only [qhe] at h
   split at h
   ·rename_i r' e1 e2 e3
    obtain rfl := Option.some.inj h
    obtain rfl := qje e1
    obtain rfl := qje e2
    exact .inl ⟨_, _, _, _, _, _, rfl, rfl, rfl, e3, rfl⟩
   ·cases h
 | none =>
  match l, l', h with
  | .lit (.bool a) :: l1, .lit (.bool b) :: l2, h =>
   simp only [qhe] at h
   split at h
   ·rename_i r' e3
    obtain rfl := Option.some.inj h
    exact .inr ⟨_, _, _, _, _, rfl, rfl, rfl, e3, rfl⟩
   ·cases h
theorem qgs {d : Nat} : ∀ {sh : List (Option IntKind)} {fs : List Field} {o : Nat} {l l' : List CV} {xs ys : Array Value} {r : Bool}, fs.map (fun f => (f.name != "_", P.underlying f.type, f.offset)) = shL o sh -> qhe sh l l' = some r -> qai X ρ l (xs.toList.drop o) -> qai X ρ l' (ys.toList.drop o) -> (Op.eqFields (d + 1) xs ys fs).run P w = .ok r w
 | [], fs, o, l, l', xs, ys, r, hf, he, _, _ => by
  have : fs = [] := List.map_eq_nil_iff.1 hf
  subst this
  cases l <;> cases l' <;> simp [qhe] at he
  subst he
  simp [Op.eqFields]
 | x :: sh, fs, o, l, l', xs, ys, r, hf, he, hx, hy => by
  match fs, hf with
  | f :: fs, hf =>
   simp only [List.map_cons, shL, List.cons.injEq, Prod.mk.injEq] at hf
   obtain ⟨⟨hn, hu, ho⟩, hf2⟩ := hf
   have hn' : f.name ≠ "_" := by simpa using hn
   have cut : ∀ {c : CV} {l : List CV} {xs : Array Value}, qai X ρ (c :: l) (xs.toList.drop o) -> ∃ v, xs[o]? = some v /\ CRel X ρ c v /\ qai X ρ l (xs.toList.drop (o + 1)) := by
    intro c l xs h
    cases hd : xs.toList.drop o with
    | nil => rw [hd] at h; exact h.elim
    | cons v vs =>
     rw [hd] at h
     have h1 : xs.toList[o]? = some v := by have := List.getElem?_drop (xs := xs.toList) (i := o) (j := 0); rw [hd, Nat.add_zero] at this; simpa using this.symm
     refine ⟨v, by simpa using h1, h.1, ?_⟩
     have : xs.toList.drop (o + 1) = vs := by rw [← List.drop_drop, hd]; rfl
     rw [this]; exact h.2
   have prt : ∀ {xs : Array Value} {v : Value}, xs[o]? = some v -> (part f.type xs f.offset).run P w = .ok v w := by
    intro xs v hv
    have hag : (isAgg f.type).run P w = .ok false w := qdk (by rw [hu]; cases x <;> rfl) w
    simp [part, hag, ho, hv]
   rcases qv6 he with ⟨k, a, b, l1, l2, r', rfl, rfl, rfl, e3, rfl⟩ | ⟨a, b, l1, l2, r', rfl, rfl, rfl, e3, rfl⟩
   ·obtain ⟨v, hv, ⟨rfl, _⟩, hx'⟩ := cut hx
    obtain ⟨v', hv', ⟨rfl, _⟩, hy'⟩ := cut hy
    have ih := qgs (d := d) (sh := sh) (o := o + 1) hf2 e3 hx' hy'
    have heq := run_equalIn_int (P := P) w d f.type k k a b hu
    simp only [Op.eqFields, if_pos hn', Sem.run_bind, prt hv, prt hv', Result.andThen_ok, heq]
    cases hab : a == b <;> simp [ih]
   ·obtain ⟨v, hv, ⟨rfl, _⟩, hx'⟩ := cut hx
    obtain ⟨v', hv', ⟨rfl, _⟩, hy'⟩ := cut hy
    have ih := qgs (d := d) (sh := sh) (o := o + 1) hf2 e3 hx' hy'
    have heq := run_equalIn_bool' (P := P) w d f.type a b hu
    simp only [Op.eqFields, if_pos hn', Sem.run_bind, prt hv, prt hv', Result.andThen_ok, heq]
    cases hab : a == b <;> simp [ih]
theorem qv7 (htt : TTok P tt) {o : Oper} {op : BinOp} {T T' : Nat} {x y : Operand} (ho : o.op = .binOp op T x y T') {e : Eff} (he : qly tt t g op T x y = some e) (hob : All e.ob) (hg : GT g) (hA : ARel X ρ n t a) (hM : MRel X ρ w m) (hW : WRel X w) :
  Runs P X ρ w m e.al (execOp a.eval o) e.v e.wr := by
 unfold qly at he
 split at he
 ·rename_i u o1 v o2 hx hy
  split at he
  ·rename_i r ob hr
   have fin : qa3 g (.one (.lit r)) (app o1 o2) ob = some e -> (isConst y = false -> v ≠ .nilIface) -> Runs P X ρ w m e.al (execOp a.eval o) e.v e.wr := by
    intro he hc
    refine jl he hob hg hM hW (x := r) fun h1 h2 => ?_
    rw [qx] at h1
    obtain ⟨ex, ex1⟩ := qw hx h1.1 hg hA
    obtain ⟨ey, ey1⟩ := qw hy h1.2 hg hA
    have hguard : (eqGuard op T x y u v).run P w = .ok () w := by
     by_cases hv : v = .nilIface
     ·subst hv
      cases y with
      | const c => unfold eqGuard; cases op <;> cases u <;> first | (cases ex1; done) | simp
      | tmp s => exact absurd rfl (hc rfl)
      | global q => exact absurd rfl (hc rfl)
      | func f => exact absurd rfl (hc rfl)
     ·unfold eqGuard
      cases op <;> cases u <;> first | (cases ex1; done) | (simp; done) | (cases v <;> first | exact absurd rfl hv | simp)
    suffices h : (binOp op T u v).run P w = .ok r w /\ r.oneCell' = true by
     refine ⟨?_, rfl, h.2⟩
     simp [execOp, ho, ex, ey, hguard, h.1]
    unfold qsu at hr
    split at hr
    ·rename_i k' b
     split at hr
     ·rename_i k a'
      split at hr
      ·simp at hr; obtain ⟨rfl, rfl⟩ := hr
       have : ¬ b < 0 := by have := h2.1; omega
       exact ⟨by simp [binOp, Op.shift, this], rfl⟩
      ·simp at hr; obtain ⟨rfl, rfl⟩ := hr
       have : ¬ b < 0 := by have := h2.1; omega
       exact ⟨by simp [binOp, Op.shift, this], rfl⟩
      ·split at hr
       ·rename_i hk
        obtain rfl := qje hk
        exact q1x hr h2 w
       ·cases hr
     ·cases hr
    ·rename_i b
     split at hr
     ·rename_i a'
      split at hr
      ·rename_i i hT
       have hti := htt T i hT
       split at hr
       ·rename_i hd
        simp at hr; obtain ⟨rfl, rfl⟩ := hr
        exact ⟨by simp [binOp, qim (P := P) (by rw [hti.und, hd])], rfl⟩
       ·rename_i hd
        simp at hr; obtain ⟨rfl, rfl⟩ := hr
        exact ⟨by simp [binOp, qim (P := P) (by rw [hti.und, hd])], rfl⟩
       ·cases hr
      ·cases hr
     ·cases hr
    ·rename_i b
     split at hr
     ·rename_i a'
      split at hr
      ·simp at hr; obtain ⟨rfl, rfl⟩ := hr
       exact ⟨by simp [binOp, Op.stringOp], rfl⟩
      ·simp at hr; obtain ⟨rfl, rfl⟩ := hr
       exact ⟨by simp [binOp, Op.stringOp], rfl⟩
      ·simp at hr; obtain ⟨rfl, rfl⟩ := hr
       have h3 : ¬ ((a'.size + b.size : Nat) : Int) > IntKind.i64.max := by
        have h4 : IntKind.i64.max = 9223372036854775807 := by decide
        have := h2.1
        omega
       exact ⟨by simp only [binOp, Op.stringOp, if_neg h3]; rfl, rfl⟩
      ·cases hr
     ·cases hr
    ·exact q1y htt hr h2 w
   split at he
   ·cases he
   ·rename_i hne
    refine fin he fun h1 h2 => ?_
    subst h2
    exact hne h1 rfl
  ·cases he
 ·rename_i l o1 l' o2 hx hy
  split at he
  ·rename_i i hT
   have hti := htt T i hT
   split at he
   ·rename_i sh hsh
    obtain ⟨q1, q2, q3, q4⟩ := hti.eqok sh hsh
    have key : ∀ b, qhe sh l l' = some b -> All o1 -> All o2 -> ∃ xs ys, a.eval x = .agg xs /\ a.eval y = .agg ys /\ (Op.equalIn 10000 T (.agg xs) (.agg ys)).run P w = .ok b w := by
     intro b hb h1 h2
     obtain ⟨xs, ex, hxs⟩ := qw hx h1 hg hA
     obtain ⟨ys, ey, hys⟩ := qw hy h2 hg hA
     refine ⟨xs, ys, ex, ey, ?_⟩
     rw [run_equalIn_struct w 9999 T xs ys q3 q1]
     exact qgs (d := 9998) q4 hb (by simpa using hxs) (by simpa using hys)
    split at he
    ·rename_i b hb
     refine jl he hob hg hM hW (x := .bool b) fun h1 h2 => ?_
     rw [qx] at h1
     obtain ⟨xs, ys, ex, ey, hr⟩ := key b hb h1.1 h1.2
     have hgu := run_eqGuard_agg (P := P) w .eql T x y xs ys q2
     refine ⟨?_, rfl, rfl⟩
     simp only [execOp, ho, ex, ey, Sem.run_bind, hgu, Result.andThen_ok, run_eql_struct, hr]
     rfl
    ·rename_i b hb
     refine jl he hob hg hM hW (x := .bool (!b)) fun h1 h2 => ?_
     rw [qx] at h1
     obtain ⟨xs, ys, ex, ey, hr⟩ := key b hb h1.1 h1.2
     have hgu := run_eqGuard_agg (P := P) w .neq T x y xs ys q2
     refine ⟨?_, rfl, rfl⟩
     simp only [execOp, ho, ex, ey, Sem.run_bind, hgu, Result.andThen_ok, run_neq_struct, hr]
     rfl
    ·cases he
   ·cases he
  ·cases he
 ·cases he
theorem qqq {o : Oper} {mn : Bool} {x y : Operand} {c : Call} (ho : o.op = .call c) (hc : c.callee = .builtin (match mn with | true => .min | false => .max)) (ha : c.args.toList = [x, y]) {e : Eff} (he : evMM t g mn x y = some e) (hob : All e.ob) (hg : GT g) (hA : ARel X ρ n t a) (hM : MRel X ρ w m) (hW : WRel X w) :
  Runs P X ρ w m e.al (execOp a.eval o) e.v e.wr := by
 have hargs : c.args = #[x, y] := by rw [← Array.toList_inj]; simpa using ha
 unfold evMM at he
 split at he
 ·rename_i k p o1 k' q o2 hx hy
  split at he
  ·rename_i hk
   obtain rfl := qje hk
   refine jl he hob hg hM hW (x := .int k (mmI mn p q)) fun h1 h2 => ?_
   rw [qx] at h1
   have ex := (qw hx h1.1 hg hA).1
   have ey := (qw hy h1.2 hg hA).1
   refine ⟨?_, rfl, rfl⟩
   cases mn with
   | true =>
    simp only at hc
    simp [execOp, ho, resolve, hc, hargs, invoke, builtin, Builtin.min_, Builtin.min2, ex, ey, mmI]
   | false =>
    simp only at hc
    simp [execOp, ho, resolve, hc, hargs, invoke, builtin, Builtin.max_, Builtin.max2, ex, ey, mmI]
  ·cases he
 ·cases he
theorem qsx (htt : TTok P tt) {o : Oper} {S T : Nat} {x : Operand} (ho : o.op = .convert S T x) {e : Eff} (he : qpi tt t g S T x = some e) (hob : All e.ob) (hg : GT g) (hA : ARel X ρ n t a) (hM : MRel X ρ w m) (hW : WRel X w) :
  Runs P X ρ w m e.al (execOp a.eval o) e.v e.wr := by
 unfold qpi at he
 split at he
 ·rename_i i j k p o1 hS hT hx
  split at he
  ·rename_i k1 k' hd1 hd2
   refine jl he hob hg hM hW (x := .int k' (k'.wrap p)) fun h1 h2 => ?_
   have ex := (qw hx h1 hg hA).1
   have hu1 : (underlying S).run P w = .ok (.int k1) w := by rw [run_underlying (htt S i hS).und w, hd1]
   have hu2 : (underlying T).run P w = .ok (.int k') w := by rw [run_underlying (htt T j hT).und w, hd2]
   exact ⟨by simp [execOp, ho, ex, convert, hu1, hu2, Conv.intToInt], rfl, rfl⟩
  ·cases he
 ·cases he
theorem qya {o : Oper} {op : UnOp} {T : Nat} {x : Operand} (ho : o.op = .unOp op T x) {e : Eff} (he : evUn t g op x = some e) (hob : All e.ob) (hg : GT g) (hA : ARel X ρ n t a) (hM : MRel X ρ w m) (hW : WRel X w) :
  Runs P X ρ w m e.al (execOp a.eval o) e.v e.wr := by
 unfold evUn at he
 split at he
 ·rename_i b o1 hx
  refine jl he hob hg hM hW (x := .bool (!b)) fun h1 h2 => ?_
  have ex := (qw hx h1 hg hA).1
  exact ⟨by simp [execOp, ho, ex, Op.unary], rfl, rfl⟩
 ·rename_i k q o1 hx
  refine jl he hob hg hM hW (x := .int k (0 - q)) fun h1 h2 => ?_
  have ex := (qw hx h1 hg hA).1
  have hk : k.wrap (0 - q) = 0 - q := h2.1
  exact ⟨by simp only [execOp, ho, ex, Op.unary, Op.intArith, hk]; rfl, rfl, rfl⟩
 ·cases he
theorem qn8 {g : Option Bool} {b : Bool} (hg : GT g) (hb : b = true) : GT (some (gAnd g b)) := by
 intro c hc
 obtain rfl := Option.some.inj hc
 cases g with
 | none => exact hb
 | some g' => show (g' && b) = true; rw [hg g' rfl, hb]; rfl
theorem qsy {o : Oper} {c x y : Operand} (ho : o.op = .pick c x y) {e : Eff} (he : qsv t g c x y = some e) (hob : All e.ob) (hg : GT g) (hA : ARel X ρ n t a) (hM : MRel X ρ w m) (hW : WRel X w) :
  Runs P X ρ w m e.al (execOp a.eval o) e.v e.wr := by
 unfold qsv at he
 split at he
 ·rename_i b o0 hc
  split at he
  ·rename_i p o1 q o2 hx hy
   refine jl he hob hg hM hW (x := .bool (bif b then p else q)) fun h1 h2 => ?_
   rw [qx, qx] at h1
   have ec := (qw hc h1.1 hg hA).1
   refine ⟨?_, rfl, rfl⟩
   cases b with
   | true =>
    have ex := (qw hx h1.2.1 (qn8 hg rfl) hA).1
    simp [execOp, ho, ec, ex, asBool]
   | false =>
    have ey := (qw hy h1.2.2 (qn8 hg rfl) hA).1
    simp [execOp, ho, ec, ey, asBool]
  ·cases he
 ·cases he
theorem qa9.nth : ∀ {l : List SV} {vs : List Value} {i : Nat} {v : SV}, qa9 X ρ l vs -> nth l i = some v -> ∃ x, vs[i]? = some x /\ SRel X ρ v x
 | [], [], i, v, _, h => by simp [Eng.nth] at h
 | s :: l, x :: vs, 0, v, h, hn => by obtain rfl := Option.some.inj hn; exact ⟨x, rfl, h.1⟩
 | s :: l, x :: vs, i + 1, v, h, hn => by simpa using qa9.nth h.2 hn
 | [], _ :: _, _, _, h, _ => h.elim
 | _ :: _, [], _, _, h, _ => h.elim
theorem qn0 {o : Oper} {x : Operand} {i : Nat} (ho : o.op = .extract x i) {e : Eff} (he : qkg t x i = some e) (hob : All e.ob) (hA : ARel X ρ n t a) (hM : MRel X ρ w m) (hW : WRel X w) :
  Runs P X ρ w m e.al (execOp a.eval o) e.v e.wr := by
 unfold qkg at he
 split at he
 ·rename_i s
  split at he
  ·rename_i l hl
   split at he
   ·rename_i v hv
    obtain ⟨y, h1, vs, rfl, h2⟩ := hA.at_ s _ hl
    obtain ⟨z, hz, hs⟩ := h2.nth hv
    have : a.eval (.tmp s) = .tuple vs := by show a.tmps.getD s undef = _; simp [Array.getD_eq_getD_getElem?, h1]
    have hz' : vs[i]? = some z := by simpa using hz
    refine jl (x := z) he hob (fun _ h => by cases h) hM hW fun _ _ => ⟨?_, hs⟩
    simp [execOp, ho, this, Instr.extract, hz']
   ·cases he
  ·cases he
 ·cases he
theorem qyb {fields : Array Field} {fs : List (Nat × Nat × Bool)} (h : fields.toList.map (fun f => (f.offset, (P.info? f.type).map (·.size), (P.underlying f.type).map qgr)) = fs.map (fun x => (x.1, some x.2.1, some x.2.2)))
  {f off sz : Nat} {ag : Bool} (hf : nth fs f = some (off, sz, ag)) : ∃ fd, fields[f]? = some fd /\ fd.offset = off /\ (P.info? fd.type).map (·.size) = some sz /\ (P.underlying fd.type).map qgr = some ag := by
 rw [qmv] at hf
 have h1 := congrArg (fun l => l[f]?) h
 simp only [List.getElem?_map, hf, Option.map_some, Array.getElem?_toList] at h1
 cases hq : fields[f]? with
 | none => simp [hq] at h1
 | some fd =>
  simp [hq] at h1
  exact ⟨fd, rfl, h1.1, by simpa using h1.2.1, by simpa using h1.2.2⟩
theorem jm {T sz : Nat} (h : (P.info? T).map (·.size) = some sz) (w : World) : (sizeOf T).run P w = .ok sz w := by
 cases hq : P.info? T with
 | none => simp [hq] at h
 | some j => simp [hq] at h; simp [sizeOf, typeInfo, hq, h]
theorem qey {b o k : Nat} : (⟨b, o, none⟩ : Addr).add k = ⟨b, o + k, none⟩ := by unfold Addr.add; split <;> simp_all
theorem qlt (htt : TTok P tt) {o : Oper} {T f : Nat} {x : Operand} (ho : o.op = .fieldAddr T x f) {e : Eff} (he : qhc tt t g T x f = some e) (hob : All e.ob) (hg : GT g) (hA : ARel X ρ n t a) (hM : MRel X ρ w m) (hW : WRel X w) :
  Runs P X ρ w m e.al (execOp a.eval o) e.v e.wr := by
 unfold qhc at he
 split at he
 ·rename_i i v o1 hT hx
  split at he
  ·rename_i fields off sz ag hd hf
   have hti := htt T i hT
   obtain ⟨fd, hfd, rfl, hsz, _⟩ := qyb (hti.flds fields hd) hf
   have hu : (underlying T).run P w = .ok (.struct fields) w := by rw [run_underlying hti.und w, hd]
   have key : ∀ (g0 o0 : Nat), a.eval x = .pointer (some ⟨g0, o0, none⟩) -> Nat.beq sz 0 = false -> (execOp a.eval o).run P w = .ok (.value (.pointer (some ⟨g0, o0 + fd.offset, none⟩))) w := by
    intro g0 o0 hex hnz
    have hz : ¬ sz = 0 := by intro h0; subst h0; cases hnz
    simp [execOp, ho, hex, Instr.fieldAt, hu, hfd, Instr.sureAddr, fieldPlace, jm hsz, hz, qey]
   split at he
   ·rename_i r j hb
    refine jl (x := a.eval x |> fun _ => match a.eval x with | .pointer (some p) => .pointer (some ⟨p.block, p.off + fd.offset, none⟩) | y => y) he hob hg hM hW fun h1 _ => ?_
    obtain ⟨g0, hr, hex⟩ := qw hx h1 hg hA
    rw [hex]
    exact ⟨key _ _ hex hb, g0, hr, by simp⟩
   ·rename_i T' k n' c ii j hb
    refine jl (x := a.eval x |> fun _ => match a.eval x with | .pointer (some p) => .pointer (some ⟨p.block, p.off + fd.offset, none⟩) | y => y) he hob hg hM hW fun h1 _ => ?_
    obtain ⟨g0, o0, cap, hr, hex⟩ := qw hx h1 hg hA
    rw [hex]
    exact ⟨key _ _ hex hb, g0, o0, cap, hr, by simp [Nat.add_assoc]⟩
   ·rename_i r k ii j hb
    refine jl (x := a.eval x |> fun _ => match a.eval x with | .pointer (some p) => .pointer (some ⟨p.block, p.off + fd.offset, none⟩) | y => y) he hob hg hM hW fun h1 _ => ?_
    obtain ⟨g0, o0, n0, cap, hr, hex⟩ := qw hx h1 hg hA
    rw [hex]
    exact ⟨key _ _ hex hb, g0, o0, n0, cap, hr, by simp [Nat.add_assoc]⟩
   ·cases he
  ·cases he
 ·cases he
theorem qgt {ag : Bool} {l : List CV} {v : SV} {vs : List Value} (h : one? ag l = some v) (hc : qai X ρ l vs) : ∃ x, SRel X ρ v x /\ (ag = true -> x = .agg vs.toArray) /\ (ag = false -> vs = [x]) := by
 cases ag with
 | true =>
  obtain rfl := Option.some.inj h
  exact ⟨.agg vs.toArray, ⟨_, rfl, by simpa using hc⟩, fun _ => rfl, (fun h => by cases h)⟩
 | false =>
  match l, vs, h, hc with
  | [c], [x], h, hc =>
   obtain rfl := Option.some.inj h
   exact ⟨x, hc.1, (fun h => by cases h), fun _ => rfl⟩
  | [_], [], _, hc => exact hc.elim
  | [_], _ :: _ :: _, _, hc => exact hc.2.elim
  | _ :: _ :: _, _, h, _ => cases h
  | [], _, h, _ => cases h
theorem qqr (htt : TTok P tt) {o : Oper} {T f : Nat} {x : Operand} (ho : o.op = .field T x f) {e : Eff} (he : qpg tt t g T x f = some e) (hob : All e.ob) (hg : GT g) (hA : ARel X ρ n t a) (hM : MRel X ρ w m) (hW : WRel X w) :
  Runs P X ρ w m e.al (execOp a.eval o) e.v e.wr := by
 unfold qpg at he
 split at he
 ·rename_i i l o1 hT hx
  split at he
  ·rename_i fields off sz ag hd hf
   have hti := htt T i hT
   obtain ⟨fd, hfd, rfl, hsz, hag⟩ := qyb (hti.flds fields hd) hf
   have hu : (underlying T).run P w = .ok (.struct fields) w := by rw [run_underlying hti.und w, hd]
   split at he
   ·rename_i cs hcs
    obtain ⟨rfl, hlen⟩ := qga _ _ _ hcs
    rw [qf9] at he hlen
    split at he
    ·rename_i v hv
     have ho1 : All o1 := by simp [qa3] at he; subst he; rw [qx] at hob; exact hob.1
     obtain ⟨vs, hex, hr⟩ := qw hx ho1 hg hA
     obtain ⟨y, hy1, hy2, hy3⟩ := qgt hv ((hr.drop fd.offset).take sz)
     refine jl (x := y) he hob hg hM hW fun h1 _ => ⟨?_, hy1⟩
     have hl := hr.len
     simp only [execOp, ho, hex, Instr.field, Sem.run_bind, hu, Result.andThen_ok, hfd, asAgg, part, qdk hag]
     cases ag with
     | true =>
      rw [hy2 rfl]
      simp only [if_true, Sem.run_bind, jm hsz, Result.andThen_ok, Sem.run_pure]
      simp [← Array.toList_inj, List.extract_eq_take_drop, hd, hfd, qdk hag, jm hsz]
     | false =>
      have h3 := hy3 rfl
      have h4 : vs[fd.offset]? = some y := by
       have h5 := congrArg (fun l => l[0]?) h3
       simp only [List.getElem?_take, List.getElem?_drop] at h5
       split at h5
       ·simpa using h5
       ·cases h5
      simp [hd, hfd, qdk hag, h4]
    ·cases he
   ·cases he
  ·cases he
 ·cases he
theorem qqs (htt : TTok P tt) {o : Oper} {T : Nat} {x y : Operand} (ho : o.op = .index T x y) {e : Eff} (he : qph tt t g T x y = some e) (hob : All e.ob) (hg : GT g) (hA : ARel X ρ n t a) (hM : MRel X ρ w m) (hW : WRel X w) :
  Runs P X ρ w m e.al (execOp a.eval o) e.v e.wr := by
 unfold qph at he
 split at he
 ·rename_i it l o1 k i o2 hT hx hy
  split at he
  ·rename_i N el hd
   split at he
   ·rename_i ie hE
    have hti := htt T it hT
    have hei := htt el ie hE
    have hu : (underlying T).run P w = .ok (.array N el) w := by rw [run_underlying hti.und w, hd]
    have hsz := hei.size
    have hag : (P.underlying el).map qgr = some ie.isAgg := by rw [hei.und, qmw]; rfl
    split at he
    ·rename_i cs hcs
     obtain ⟨rfl, hlen⟩ := qga _ _ _ hcs
     rw [qf9] at he hlen
     split at he
     ·rename_i v hv
      have ho2 : All o1 /\ All o2 /\ (0 <= i /\ i < (N : Int)) := by
       simp [qa3] at he; subst he
       rw [qx, qx] at hob
       have := qcf hob.2 hg
       exact ⟨hob.1.1, hob.1.2, this.1, this.2.1⟩
      obtain ⟨h1, h2, h0, hN⟩ := ho2
      obtain ⟨vs, hex, hr⟩ := qw hx h1 hg hA
      have hey := (qw hy h2 hg hA).1
      obtain ⟨z, hy1, hy2, hy3⟩ := qgt hv ((hr.drop (i.toNat * ie.size)).take ie.size)
      refine jl (x := z) he hob hg hM hW fun _ _ => ⟨?_, hy1⟩
      have hl := hr.len
      cases ha : ie.isAgg with
      | true =>
       rw [ha] at hag hy2
       rw [hy2 rfl]
       simp [execOp, ho, hex, hey, Instr.index, asIntOf, hu, h0, hN, part, qdk hag, jm hsz, ← Array.toList_inj, List.extract_eq_take_drop]
      | false =>
       rw [ha] at hag hy3
       have h3 := hy3 rfl
       have h4 : vs[i.toNat * ie.size]? = some z := by
        have h5 := congrArg (fun l => l[0]?) h3
        simp only [List.getElem?_take, List.getElem?_drop] at h5
        split at h5
        ·simpa using h5
        ·cases h5
       simp [execOp, ho, hex, hey, Instr.index, asIntOf, hu, h0, hN, part, qdk hag, jm hsz, h4]
     ·cases he
    ·cases he
   ·cases he
  ·cases he
 ·cases he
end
theorem qjf (v : Value) : oneV v = v.oneCell' := by cases v <;> rfl
theorem qhf {w : World} : ∀ {d : D} {us : List Value} {b : List Nat} {j : Nat} {c : Cell}, Own w d us b -> qdn d j = some c -> ∃ x, us[j]? = some x /\ (∀ v, c = .lit v -> x = v) /\ (∀ T k n e, c = .row T k n e -> ∃ b', Own w (.row T k n e .nil) [x] b' /\ ∀ y ∈ b', y ∈ b)
 | .nil, _, _, _, _, _, h => by simp [qdn] at h
 | .lit v r, us, b, 0, c, ho, h => by
  obtain ⟨vs', rfl, _⟩ := ho
  obtain rfl := Option.some.inj h
  exact ⟨v, rfl, (fun u hu => by cases hu; rfl), (fun _ _ _ _ hu => by cases hu)⟩
 | .lit v r, us, b, j + 1, c, ho, h => by
  obtain ⟨vs', rfl, ho⟩ := ho
  obtain ⟨x, h1, h2, h3⟩ := qhf ho (show qdn r j = some c from h)
  exact ⟨x, by simpa using h1, h2, h3⟩
 | .row T k n e r, us, b, 0, c, ho, h => by
  obtain ⟨v, vs', b1, b2, rfl, rfl, _, h2⟩ := ho
  obtain rfl := Option.some.inj h
  refine ⟨v, rfl, (fun u hu => by cases hu), fun T' k' n' e' hu => ?_⟩
  cases hu
  exact ⟨b1, ⟨v, [], b1, [], rfl, by simp, ⟨rfl, rfl⟩, h2⟩, fun y hy => by simp [hy]⟩
 | .row T k n e r, us, b, j + 1, c, ho, h => by
  obtain ⟨v, vs', b1, b2, rfl, rfl, ho, _⟩ := ho
  obtain ⟨x, h1, h2, h3⟩ := qhf ho (show qdn r j = some c from h)
  exact ⟨x, by simpa using h1, h2, fun T' k' n' e' hu => let ⟨b', g1, g2⟩ := h3 T' k' n' e' hu; ⟨b', g1, fun y hy => by simp [g2 y hy]⟩⟩
theorem take_drop_succ {us : List Value} {j n : Nat} {x : Value} (h : us[j]? = some x) : (us.drop j).take (n + 1) = x :: (us.drop (j + 1)).take n := by
 have hj : j < us.length := by
  rcases Nat.lt_or_ge j us.length with h' | h'
  ·exact h'
  ·rw [List.getElem?_eq_none h'] at h; cases h
 rw [List.drop_eq_getElem_cons hj, List.take_succ_cons]
 congr 1
 rw [List.getElem?_eq_getElem hj] at h
 exact Option.some.inj h
theorem qki {w : World} {F : Nat -> Prop} : ∀ {d : D} {us : List Value} {j : Nat} {c : Cell}, RdO w F d us -> qdn d j = some c -> ∃ x, us[j]? = some x /\ (∀ v, c = .lit v -> x = v) /\ (∀ T k n e, c = .row T k n e -> RdO w F (.row T k n e .nil) [x])
 | .nil, _, _, _, _, h => by simp [qdn] at h
 | .lit v r, us, 0, c, ho, h => by
  obtain ⟨vs', rfl, _⟩ := ho
  obtain rfl := Option.some.inj h
  exact ⟨v, rfl, (fun u hu => by cases hu; rfl), (fun _ _ _ _ hu => by cases hu)⟩
 | .lit v r, us, j + 1, c, ho, h => by
  obtain ⟨vs', rfl, ho⟩ := ho
  obtain ⟨x, h1, h2, h3⟩ := qki ho (show qdn r j = some c from h)
  exact ⟨x, by simpa using h1, h2, h3⟩
 | .row T k n e r, us, 0, c, ho, h => by
  obtain ⟨v, vs', rfl, _, h2⟩ := ho
  obtain rfl := Option.some.inj h
  refine ⟨v, rfl, (fun u hu => by cases hu), fun T' k' n' e' hu => ?_⟩
  cases hu
  exact ⟨v, [], rfl, rfl, h2⟩
 | .row T k n e r, us, j + 1, c, ho, h => by
  obtain ⟨v, vs', rfl, ho, _⟩ := ho
  obtain ⟨x, h1, h2, h3⟩ := qki ho (show qdn r j = some c from h)
  exact ⟨x, by simpa using h1, h2, h3⟩
theorem qjg {X : Cx} {ρ : Env} {d : D} {us : List Value} (ho : RdO X.w0 X.F d us) : ∀ {n j : Nat} {cs : List CV}, qmo d j n = some cs -> qai X ρ cs ((us.drop j).take n) /\ ((us.drop j).take n).length = n
 | 0, j, cs, h => by simp [qmo] at h; subst h; simp [qai]
 | n + 1, j, cs, h => by
  unfold qmo at h
  split at h
  ·rename_i c l hc hl
   split at h
   ·rename_i x hx
    obtain rfl := Option.some.inj h
    obtain ⟨y, h1, h2, h3⟩ := qki ho hc
    obtain ⟨g1, g2⟩ := qjg (ρ := ρ) ho hl
    rw [take_drop_succ h1]
    refine ⟨⟨?_, g1⟩, by simp [g2]⟩
    cases c with
    | lit v =>
     unfold CV.ofCell at hx
     simp only at hx
     split at hx
     ·rename_i hv
      obtain rfl := Option.some.inj hx
      exact ⟨h2 v rfl, by rw [← qjf]; exact hv⟩
     ·cases hx
    | row T k m e =>
     obtain rfl := Option.some.inj hx
     exact h3 T k m e rfl
   ·cases h
  ·cases h
theorem qhg {X : Cx} {ρ : Env} {w : World} {d : D} {us : List Value} {b : List Nat} (ho : Own w d us b) : ∀ {n j : Nat} {cs : List CV}, qn5 d j n = some cs -> qai X ρ cs ((us.drop j).take n) /\ ((us.drop j).take n).length = n
 | 0, j, cs, h => by simp [qn5] at h; subst h; simp [qai]
 | n + 1, j, cs, h => by
  unfold qn5 at h
  split at h
  ·rename_i v l hc hl
   split at h
   ·rename_i hv
    obtain rfl := Option.some.inj h
    obtain ⟨y, h1, h2, h3⟩ := qhf ho hc
    obtain ⟨g1, g2⟩ := qhg (X := X) (ρ := ρ) ho hl
    rw [take_drop_succ h1]
    exact ⟨⟨⟨h2 v rfl, by rw [← qjf]; exact hv⟩, g1⟩, by simp [g2]⟩
   ·cases h
  ·cases h
theorem qn9 {w : World} {T k n cap : Nat} {A : Option Addr} {l : List D} {bs : List Nat} {i : Nat} {d : D} (h : Own w (rowC T k l) [.slice A n cap] bs) (hk : ∀ d ∈ l, d.len = k) (hd : l[i]? = some d) :
  ∃ g o cur us b, A = some ⟨g, o, none⟩ /\ g ∈ bs /\ w.heap[g]? = some (.cells cur T (0, 0)) /\ us = (cur.toList.drop (o + i * k)).take k /\ us.length = k /\ Own w d us b /\ ∀ x ∈ b, x ∈ bs := by
 obtain ⟨A', cap', e1, _, _, hA⟩ := qja h hk
 have hi : i < l.length := by
  rcases Nat.lt_or_ge i l.length with h' | h'
  ·exact h'
  ·rw [List.getElem?_eq_none h'] at hd; cases hd
 obtain ⟨g, o, cur, us, pre, b, post, rfl, rfl, hg, hl, hus, _, ho, _⟩ := hA i hi
 rw [Value.slice.injEq] at e1
 obtain ⟨rfl, _, _⟩ := e1
 rw [qnz hd] at ho
 exact ⟨g, o, cur, us, b, rfl, by simp, hg, hus, hl, ho, fun x hx => by simp [hx]⟩
theorem qhh {w : World} {g T : Nat} {cur : Array Value} {fz : Nat × Nat} (hg : w.heap[g]? = some (.cells cur T fz)) (o n : Nat) : w.rangeAt g o ((cur.toList.drop o).take n) := by
 intro j v hv
 rw [show w.cell? ⟨g, o + j, none⟩ = cur[o + j]? by simp [World.cell?, hg]]
 rw [List.getElem?_take] at hv
 split at hv
 ·rw [List.getElem?_drop] at hv; simpa using hv
 ·cases hv
theorem qui {X : Cx} {ρ : Env} : ∀ {l : List CV} {vs : List Value} {j : Nat} {c : CV}, qai X ρ l vs -> nth l j = some c -> ∃ x, vs[j]? = some x /\ CRel X ρ c x
 | [], _, _, _, _, h => by cases h
 | c :: l, x :: vs, 0, c', hr, h => by obtain rfl := Option.some.inj (show some c = some c' from h); exact ⟨x, rfl, hr.1⟩
 | c :: l, x :: vs, j + 1, c', hr, h => by
  obtain ⟨y, h1, h2⟩ := qui (j := j) hr.2 h
  exact ⟨y, by simpa using h1, h2⟩
theorem quj {X : Cx} {ρ : Env} : ∀ {j : Nat} {l l' : List CV} {vs : List Value} {c : CV} {x : Value}, putL j [c] l = some l' -> qai X ρ l vs -> vs[j]? = some x -> CRel X ρ c x -> qai X ρ l' vs
 | 0, [], _, _, _, _, hp, _, _, _ => by cases hp
 | 0, v :: l, l', y :: vs, c, x, hp, hr, hx, hc => by
  have e : putL 0 [] l = some l := by cases l <;> rfl
  unfold putL at hp
  rw [e] at hp
  obtain rfl := Option.some.inj hp
  obtain rfl := Option.some.inj (show some y = some x from hx)
  exact ⟨hc, hr.2⟩
 | j + 1, [], _, _, _, _, hp, _, _, _ => by cases hp
 | j + 1, v :: l, l', y :: vs, c, x, hp, hr, hx, hc => by
  unfold putL at hp
  split at hp
  ·rename_i m hm
   obtain rfl := Option.some.inj hp
   exact ⟨hr.1, quj hm hr.2 (by simpa using hx) hc⟩
  ·cases hp
theorem qmy {X : Cx} {ρ : Env} {w : World} {m : ML} {B : Nat -> List Nat} (hB : MRelB X ρ w m B) : ∀ {ps : List (Nat × Nat)} {cs cs' : List CV} {ob : List Prop} {u : List Nat} {vs : List Value}, pinC m ps cs = some (cs', ob, u) -> All ob -> qai X ρ cs vs -> qai X ρ cs' vs
 | [], cs, cs', ob, u, vs, h, _, hr => by simp [pinC] at h; obtain ⟨rfl, _⟩ := h; exact hr
 | (jj, p) :: ps, cs, cs', ob, u, vs, h, ho, hr => by
  unfold pinC at h
  split at h
  ·rename_i y q x hn hm
   split at h
   ·rename_i cs1 hp
    split at h
    ·rename_i c2 ob2 u2 h2
     simp only [Option.some.injEq, Prod.mk.injEq] at h
     obtain ⟨rfl, rfl, rfl⟩ := h
     obtain ⟨rfl, ho2⟩ := ho
     obtain ⟨z, h3, h4, h5⟩ := qui hr hn
     have h6 : ρ q = some y := (hB.blk p _ hm).2.1
     exact qmy hB h2 ho2 (quj hp hr h3 ⟨by rw [h6, h4], by rw [h4]; exact h5⟩)
    ·cases h
   ·cases h
  ·cases h
section
variable {P : Program} {X : Cx} {ρ : Env} {w : World} {m : ML} {tt : TT} {t : TL} {n : Nat} {a : Act} {g : Option Bool}
theorem qla {T : Nat} {i : TI} (h : TIok P T i) {b o : Nat} {cs : List Value} (hc : w.rangeAt b o cs) (hl : cs.length = i.size) {x : Value} (h1 : i.isAgg = true -> x = .agg cs.toArray) (h2 : i.isAgg = false -> cs = [x]) :
  (Instr.loadAt T (.pointer (some ⟨b, o, none⟩))).run P w = .ok x w := by
 cases ha : i.isAgg with
 | true =>
  rw [h1 ha]
  exact run_loadAt_mid w b o T cs i.desc hc h.und (qsw (by rw [← qmw]; exact ha)) (by rw [h.size, hl])
 | false =>
  obtain rfl := h2 ha
  have hcell : w.cell? ⟨b, o, none⟩ = some x := hc 0 x rfl
  have hag : (isAgg T).run P w = .ok false w := qdk (by rw [h.und, Option.map_some, ← qmw, ha]) w
  simp [Instr.loadAt, Instr.sureAddr, loadVar, hag, hcell]
theorem qsz (htt : TTok P tt) {ok : Ok} (hgl : ∀ x, ok.gl x -> GlX X x) {o : Oper} {T : Nat} {x : Operand} {inp : Inp} (ho : o.op = .load T x) {e : Eff} (he : qst tt ok t m g inp T x = some e) (hob : All e.ob) (hg : GT g) (hA : ARel X ρ n t a) (hM : MRel X ρ w m) (hW : WRel X w) :
  Runs P X ρ w m e.al (execOp a.eval o) e.v e.wr := by
 unfold qst at he
 split at he
 ·cases he
 ·rename_i i hT
  have hti := htt T i hT
  have fin : ∀ {l : List CV} {v : SV} {b o' : Nat} {cs : List Value}, a.eval x = .pointer (some ⟨b, o', none⟩) -> one? i.isAgg l = some v -> qai X ρ l cs -> w.rangeAt b o' cs -> cs.length = i.size -> Runs P X ρ w m [] (execOp a.eval o) (some (jh g v)) [] := by
   intro l v b o' cs hex hv hc hr hl
   obtain ⟨y, hy1, hy2, hy3⟩ := qgt hv hc
   refine Runs.pure (x := y) ?_ (qck hg hy1) hM hW
   simp [execOp, ho, hex, qla hti hr hl hy2 hy3]
  split at he
  ·rename_i r j o1 hx
   split at he
   ·rename_i T' vs hr
    split at he
    ·rename_i l hl
     split at he
     ·rename_i v hv
      obtain rfl := Option.some.inj he
      obtain ⟨B, hB⟩ := hM
      obtain ⟨g0, hρ, hex⟩ := qw hx hob hg hA
      obtain ⟨g1, cur, h1, h2, _, h3⟩ := hB.blk r _ hr
      rw [hρ] at h1
      have : g0 = g1 := by simpa using h1
      subst this
      obtain ⟨rfl, hlen⟩ := qga _ _ _ hl
      rw [qf9] at hv hlen
      have hle := h3.len
      have hcl : cur.toList.length = cur.size := Array.length_toList
      refine fin hex hv ((h3.drop j).take i.size) (qhh h2 j i.size) ?_
      rw [List.length_drop] at hlen
      rw [List.length_take, List.length_drop]
      omega
     ·cases he
    ·cases he
   ·cases he
  ·rename_i T' k n' c ii j o1 hx
   split at he
   ·rename_i d
    split at he
    ·rename_i l hl
     split at he
     ·rename_i v hv
      obtain rfl := Option.some.inj he
      rw [qx] at hob
      obtain ⟨es, rfl, rfl, hlen, hd⟩ := (qcf hob.2 hg).1
      obtain ⟨g0, o0, cap, hown, hex⟩ := qw hx hob.1 hg hA
      obtain ⟨v', vs', e1, _, h2⟩ := hown
      obtain ⟨rfl, _⟩ := List.cons.inj e1
      have hil : ii < es.length := (List.getElem?_eq_some_iff.1 hd).1
      rcases h2 with ⟨_, h3, _⟩ | ⟨g1, o1', cap', us, e2, hc1, hc2, hul, hcell, hFg, hcat⟩
      ·omega
      ·have e3 : g0 = g1 /\ o0 = o1' := by rw [Value.slice.injEq] at e2; simpa using e2.1
       obtain ⟨rfl, rfl⟩ := e3
       obtain ⟨hod, hle⟩ := quh k es hlen hcat ii d hd
       obtain ⟨k1, k2⟩ := qjg (ρ := ρ) hod hl
       refine fin hex hv k1 ?_ k2
       intro q x hx'
       rw [List.getElem?_take] at hx'
       split at hx'
       ·rename_i hq
        rw [List.getElem?_drop, List.getElem?_take] at hx'
        split at hx'
        ·rename_i hq2
         rw [List.getElem?_drop] at hx'
         have hlt : ii * k + (j + q) < es.length * k := by
          have := (List.getElem?_eq_some_iff.1 hx').1; omega
         rw [World.cell?_of_block (w := X.w0) (hW.frz g0 (X.hF g0 (hFg (by omega))) (X.hHF g0 (hFg (by omega)))), show o0 + ii * k + j + q = o0 + (ii * k + (j + q)) by omega, hcell _ hlt]
         exact hx'
        ·cases hx'
       ·cases hx'
     ·cases he
    ·cases he
   ·cases he
  ·rename_i r k ii j o1 hx
   split at he
   ·rename_i T' k' es d hr
    split at he
    ·rename_i cs hkk hl
     split at he
     ·rename_i v hv
      obtain rfl := Option.some.inj he
      rw [qx] at hob
      have hd := (qcf hob.2 hg).1
      obtain ⟨B, hB⟩ := hM
      obtain ⟨g0, o0, n0, cap, hρ, hex⟩ := qw hx hob.1 hg hA
      obtain ⟨y, h1, hown, hlen, _⟩ := hB.blk r _ hr
      rw [hρ] at h1
      obtain rfl := Option.some.inj h1
      have : k = k' := by rw [← Nat.beq_eq]; exact hkk
      subst this
      obtain ⟨g1, o1', cur, us, b, e1, hgb, hcur, hus, hul, hod, hbb⟩ := qn9 hown hlen hd
      have e2 : g0 = g1 /\ o0 = o1' := by simpa using e1
      obtain ⟨rfl, rfl⟩ := e2
      obtain ⟨k1, k2⟩ := qhg (X := X) (ρ := ρ) hod hl
      refine fin hex hv k1 ?_ k2
      have := qhh hcur (o0 + ii * k + j) i.size
      have e3 : (us.drop j).take i.size = (cur.toList.drop (o0 + ii * k + j)).take i.size := by
       rw [hus, List.drop_take, List.drop_drop, List.take_take, Nat.min_eq_left]
       have := k2
       rw [List.length_take, List.length_drop, hul] at this
       omega
      rw [e3]; exact this
     ·cases he
    ·cases he
   ·rename_i T' k' es d ps hr
    split at he
    ·rename_i cs hkk hl
     split at he
     ·rename_i cs' o2 u' hpc
      split at he
      ·rename_i v hv
       obtain rfl := Option.some.inj he
       rw [qx] at hob
       have hd := (qcf hob.2 hg).1
       have hob2 := (qcf hob.2 hg).2
       obtain ⟨B, hB⟩ := hM
       obtain ⟨g0, o0, n0, cap, hρ, hex⟩ := qw hx hob.1 hg hA
       obtain ⟨y, h1, hown, hlen, _⟩ := hB.blk r _ hr
       rw [hρ] at h1
       obtain rfl := Option.some.inj h1
       have : k = k' := by rw [← Nat.beq_eq]; exact hkk
       subst this
       obtain ⟨g1, o1', cur, us, b, e1, hgb, hcur, hus, hul, hod, hbb⟩ := qn9 hown hlen hd
       have e2 : g0 = g1 /\ o0 = o1' := by simpa using e1
       obtain ⟨rfl, rfl⟩ := e2
       obtain ⟨k1, k2⟩ := qhg (X := X) (ρ := ρ) hod hl
       have k1 := qmy hB hpc hob2 k1
       refine fin hex hv k1 ?_ k2
       have := qhh hcur (o0 + ii * k + j) i.size
       have e3 : (us.drop j).take i.size = (cur.toList.drop (o0 + ii * k + j)).take i.size := by
        rw [hus, List.drop_take, List.drop_drop, List.take_take, Nat.min_eq_left]
        have := k2
        rw [List.length_take, List.length_drop, hul] at this
        omega
       rw [e3]; exact this
      ·cases he
     ·cases he
    ·cases he
   ·cases he
  ·rename_i b o' o1 hx
   split at he
   ·rename_i y vs
    split at he
    ·rename_i v hgb hsz hv
     obtain rfl := Option.some.inj he
     rw [qx] at hob
     obtain ⟨h1, h2, h3, _⟩ := qcf hob.2 hg
     have hyb : y.g = b := by rw [← Nat.beq_eq]; exact hgb
     subst hyb
     have hls : lenL vs = i.size := by rw [← Nat.beq_eq]; exact hsz
     obtain ⟨h4, h5, hnh⟩ := hgl y h1
     obtain ⟨hex, _⟩ := qw hx hob.1 hg hA
     have h6 := (qga _ _ _ h2).1
     rw [qf9] at h6
     refine fin hex hv (qai.lits h3) ?_ (by rw [← qft]; exact hls)
     have h7 := qhh ((hW.frz y.g h5 hnh).trans h4) o' (lenL vs)
     rw [List.toList_toArray, ← h6] at h7
     exact h7
    ·cases he
   ·cases he
  ·cases he
theorem qjh {T e : Nat} {it ie : TI} (h : TIok P T it) (he : TIok P e ie) (hd : it.desc = .slice e) {b o len cap : Nat} {k : IntKind} {i : Int} (h0 : 0 <= i) (h1 : i < len) :
  (Instr.indexAt T (.slice (some ⟨b, o, none⟩) len cap) (.int k i)).run P w = .ok (.pointer (some ⟨b, o + i.toNat * ie.size, none⟩)) w := by
 have hu : (underlying T).run P w = .ok (.slice e) w := by rw [run_underlying h.und w, hd]
 simp [Instr.indexAt, asIntOf, hu, h0, h1, jm he.size, qey]
theorem qlu (htt : TTok P tt) {o : Oper} {T : Nat} {x y : Operand} (ho : o.op = .indexAddr T x y) {e : Eff} (he : qhd tt t m g T x y = some e) (hob : All e.ob) (hg : GT g) (hA : ARel X ρ n t a) (hM : MRel X ρ w m) (hW : WRel X w) :
  Runs P X ρ w m e.al (execOp a.eval o) e.v e.wr := by
 unfold qhd at he
 split at he
 ·rename_i it v o1 k i o2 hT hx hy
  split at he
  ·rename_i el hd
   split at he
   ·rename_i ie hE
    split at he
    ·rename_i T' k' n' c
     split at he
     ·rename_i hkk
      have hk : k' = ie.size := by rw [← Nat.beq_eq]; exact hkk
      subst hk
      have hox : All o1 /\ All o2 /\ (0 <= i /\ i < n') := by
       simp [qa3] at he; subst he
       rw [qx, qx] at hob
       have := qcf hob.2 hg
       exact ⟨hob.1.1, hob.1.2, this.1, this.2.1⟩
      obtain ⟨hox, hoy, h0, h1⟩ := hox
      have hey := (qw hy hoy hg hA).1
      have hown : RdO X.w0 X.F (.row T' ie.size n' c .nil) [a.eval x] := qw hx hox hg hA
      have hown2 := hown
      obtain ⟨v', vs', e1, _, h2⟩ := hown2
      obtain ⟨e3, _⟩ := List.cons.inj e1
      rcases h2 with ⟨_, h2, _⟩ | ⟨g0, o0, cap, us, h2, _⟩
      ·omega
      ·rw [h2] at e3
       rw [e3] at hown
       refine jl (x := .pointer (some ⟨g0, o0 + i.toNat * ie.size, none⟩)) he hob hg hM hW fun _ _ => ⟨?_, g0, o0, cap, hown, by simp⟩
       simp [execOp, ho, e3, hey, qjh (htt T it hT) (htt el ie hE) hd h0 h1]
     ·cases he
    ·rename_i r
     split at he
     ·rename_i T' k' l hr
      split at he
      ·rename_i hkk
       obtain rfl := Option.some.inj he
       have hk : k' = ie.size := by rw [← Nat.beq_eq]; exact hkk
       subst hk
       rw [qx, qx] at hob
       obtain ⟨hox, hoy, hob⟩ := hob
       obtain ⟨h0, h1, _⟩ := qcf hob hg
       have hey := (qw hy hoy hg hA).1
       obtain ⟨hρ, _⟩ := qw hx hox hg hA
       have hM' := hM
       obtain ⟨B, hB⟩ := hM'
       obtain ⟨z, g1, hown, hlen, _⟩ := hB.blk r _ hr
       rw [hρ] at g1
       obtain rfl := Option.some.inj g1
       obtain ⟨A, cap, e1, _, _, hA2⟩ := qja hown hlen
       obtain ⟨g0, o0, cur, us, pre, b, post, rfl, _⟩ := hA2 i.toNat (by omega)
       rw [e1] at hρ
       refine Runs.pure (x := .pointer (some ⟨g0, o0 + i.toNat * ie.size, none⟩)) ?_ (qck hg ⟨g0, o0, l.length, cap, hρ, by simp⟩) hM hW
       simp [execOp, ho, e1, hey, qjh (htt T it hT) (htt el ie hE) hd h0 h1]
      ·cases he
     ·cases he
    ·cases he
   ·cases he
  ·cases he
 ·cases he
theorem qv8 (htt : TTok P tt) {o : Oper} {T : Nat} {x : Operand} (ho : ∃ c : Call, o.op = .call c /\ c.callee = .builtin .len /\ c.args.toList = [x] /\ c.argTypes.toList = [T]) {e : Eff} (he : qpf tt t m g T x = some e) (hob : All e.ob) (hg : GT g) (hA : ARel X ρ n t a) (hM : MRel X ρ w m) (hW : WRel X w) :
  Runs P X ρ w m e.al (execOp a.eval o) e.v e.wr := by
 obtain ⟨⟨cal, args, argTypes⟩, ho, rfl, ha, hat⟩ := ho
 have ha' : args = #[x] := by rw [← Array.toList_inj]; exact ha
 have hat' : argTypes = #[T] := by rw [← Array.toList_inj]; exact hat
 subst ha' hat'
 unfold qpf at he
 split at he
 ·rename_i i v o1 hT hx
  split at he
  ·rename_i q u hq
   obtain rfl := Option.some.inj he
   have hti := htt T i hT
   have hs := qw hx hob hg hA
   have hu := run_underlying hti.und w
   refine Runs.pure (x := .int .i64 q) ?_ (qck hg ⟨rfl, rfl⟩) hM hW
   unfold q42 at hq
   split at hq
   ·rename_i hd
    rw [hd] at hu
    split at hq
    ·rename_i s
     obtain ⟨hs, _⟩ := hs
     simp at hq
     obtain ⟨rfl, _⟩ := hq
     simp [execOp, ho, resolve, invoke, builtin, Builtin.len_, hs, hu, goInt]
    ·cases hq
   ·rename_i el hd
    rw [hd] at hu
    split at hq
    ·obtain ⟨hs, _⟩ := hs
     simp at hq
     obtain ⟨rfl, _⟩ := hq
     simp [execOp, ho, resolve, invoke, builtin, Builtin.len_, hs, hu, goInt]
    ·rename_i T' k n' c
     have hs' : RdO X.w0 X.F (.row T' k n' c .nil) [a.eval x] := hs
     obtain ⟨A, cap, hs⟩ := qgq hs'
     simp at hq
     obtain ⟨rfl, _⟩ := hq
     simp [execOp, ho, resolve, invoke, builtin, Builtin.len_, hs, hu, goInt]
    ·rename_i r
     split at hq
     ·rename_i T' k l hr
      obtain ⟨B, hB⟩ := hM
      obtain ⟨z, g1, hown, hlen, _⟩ := hB.blk r _ hr
      rw [hs.1] at g1
      obtain ⟨A, cap, hs'⟩ := qfh hown
      have hs2 : a.eval x = .slice A l.length cap := by rw [← hs']; exact Option.some.inj g1
      simp at hq
      obtain ⟨rfl, _⟩ := hq
      simp [execOp, ho, resolve, invoke, builtin, Builtin.len_, hs2, hu, goInt]
     ·cases hq
    ·cases hq
   ·cases hq
  ·cases he
 ·cases he
end
theorem qez {α : Type} : ∀ (l m : List (Nat × α)) (q : Nat), lk (app l m) q = match lk l q with | some v => some v | none => lk m q
 | [], m, q => rfl
 | (k, v) :: l, m, q => by
  show lk ((k, v) :: app l m) q = _
  rw [jo, jo, qez l m q]
  split <;> rfl
theorem qcs : ∀ (l : List Nat) (n : Nat), hasN l n = true ↔ n ∈ l
 | [], n => by simp [hasN]
 | k :: l, n => by
  show (match Nat.beq k n with | true => true | false => hasN l n) = true ↔ _
  cases h : Nat.beq k n with
  | true => have : k = n := by rw [← Nat.beq_eq]; exact h
            simp [this]
  | false =>
   have : k ≠ n := by intro e; subst e; simp at h
   simp only [List.mem_cons, qcs l n]
   constructor
   ·exact Or.inr
   ·rintro (rfl | h)
    ·exact absurd rfl this
    ·exact h
theorem qcl {l : List Nat} {n : Nat} (h : hasN l n = false) : n ∉ l := fun hm => by rw [(qcs l n).2 hm] at h; cases h
theorem qax : ∀ {l u : List Nat}, disj l u = true -> ∀ x ∈ l, x ∉ u
 | [], _, _, x, hx => by cases hx
 | r :: l, u, h, x, hx => by
  unfold disj at h
  split at h
  ·cases h
  ·rename_i hr
   rw [List.mem_cons] at hx
   rcases hx with rfl | hx
   ·exact qcl hr
   ·exact qax h x hx
theorem qiu : ∀ (u : List Nat) (q : Nat) (v : Option Blk), lk (dropped u) q = some v -> v = none /\ q ∈ u
 | [], _, _, h => by cases h
 | r :: u, q, v, h => by
  change lk ((r, none) :: dropped u) q = some v at h
  rw [jo] at h
  by_cases e : r = q
  ·rw [if_pos e] at h; exact ⟨(Option.some.inj h).symm, by simp [e]⟩
  ·rw [if_neg e] at h; have := qiu u q v h; exact ⟨this.1, by simp [this.2]⟩
theorem qe0 : ∀ (u : List Nat) (q : Nat), lk (dropped u) q = none -> q ∉ u
 | [], _, _, hq => by cases hq
 | r :: u, q, h, hq => by
  change lk ((r, none) :: dropped u) q = none at h
  rw [jo] at h
  by_cases e : r = q
  ·rw [if_pos e] at h; cases h
  ·rw [if_neg e] at h
   rw [List.mem_cons] at hq
   rcases hq with rfl | hq
   ·exact e rfl
   ·exact qe0 u q h hq
theorem qfi {m : ML} {r : Nat} {b : Blk} {u : List Nat} {q : Nat} {bq : Blk} (h : lk (app ((r, some b) :: dropped u) m) q = some (some bq)) : (q = r /\ bq = b) ∨ (q ≠ r /\ q ∉ u /\ lk m q = some (some bq)) := by
 rw [qez, jo] at h
 by_cases e : r = q
 ·rw [if_pos e] at h
  exact .inl ⟨e.symm, by simpa using h.symm⟩
 ·rw [if_neg e] at h
  cases hd : lk (dropped u) q with
  | none => rw [hd] at h; exact .inr ⟨fun e' => e e'.symm, qe0 u q hd, h⟩
  | some v =>
   rw [hd] at h
   obtain ⟨rfl, _⟩ := qiu u q v hd
   simp at h
def putE (ρ : Env) (s : Nat) (x : Value) : Env := fun r => if r = s then some x else ρ r
theorem qfj {ρ : Env} {s : Nat} {x : Value} (h : ρ s = none) : Ext ρ (putE ρ s x) := by
 intro r y hr
 unfold putE
 by_cases e : r = s
 ·subst e; rw [h] at hr; cases hr
 ·rw [if_neg e]; exact hr
theorem qdh (ρ : Env) (s : Nat) (x : Value) : putE ρ s x s = some x := by simp [putE]
theorem qea {ρ : Env} {s : Nat} {x : Value} : ∀ r y, putE ρ s x r = some y -> ρ r = some y ∨ r ∈ [s] := by
 intro r y h
 unfold putE at h
 by_cases e : r = s
 ·exact .inr (by simp [e])
 ·rw [if_neg e] at h; exact .inl h
section
variable {P : Program} {X : Cx} {ρ : Env} {w : World} {m : ML} {tt : TT} {t : TL} {n : Nat} {a : Act} {g : Option Bool}
theorem quk {s : Sem Next} {q T : Nat} {vs : List CV} {cells : Array Value} (hr : s.run P w = .ok (.value (.pointer (some ⟨w.heap.size, 0, none⟩))) (w.alloc (.cells cells T))) (hs : ρ q = none) (hc : qai X ρ vs cells.toList) (hM : MRel X ρ w m) (hW : WRel X w) :
  Runs P X ρ w m [q] s (some (.sv (.one (.box q 0)))) [(q, some (.box T vs))] := by
 obtain ⟨B, hB⟩ := hM
 have hx := qfj (x := Value.pointer (some ⟨w.heap.size, 0, none⟩)) hs
 refine ⟨_, _, putE ρ q (.pointer (some ⟨w.heap.size, 0, none⟩)), hr, ⟨w.heap.size, qdh _ _ _, rfl⟩, hx, qea, ?_, ?_⟩
 ·refine ⟨_, hB.upd hx q (.box T vs) [w.heap.size] [] (fun _ h => by cases h) ⟨w.heap.size, cells, qdh _ _ _, heap_alloc_new _ _, rfl, hc.ext hx⟩ (by simp) (fun x h => .inr (by simp at h; omega)) hW.lt (fun x h _ => Below.heap_alloc _ _ _ h) ?_⟩
  intro q' bq h
  exact qfi (u := []) h
 ·exact hW.upd rfl rfl rfl (by simp) (fun b hb => Below.heap_alloc _ _ _ (hW.lt b hb))
theorem qqt (htt : TTok P tt) {o : Oper} {T s : Nat} {i : TI} (hT : lk tt T = some i) (ho : o.op = .alloc T) (hs : ρ s = none) (hM : MRel X ρ w m) (hW : WRel X w) :
  Runs P X ρ w m [s] (execOp a.eval o) (some (.sv (.one (.box s 0)))) [(s, some (.box T (i.z.cells.toList.map .lit)))] := by
 have hti := htt T i hT
 obtain ⟨j, hj, hz, _, _⟩ := hti.parts
 refine quk (cells := i.z.cells) ?_ hs (qai.lits (fun v hv => (List.all_eq_true.1 hti.z1) v hv)) hM hW
 simp [execOp, ho, Instr.alloc, zeroValue, typeInfo, hj, hz, newVar, newRow]
theorem qv9 {o : Oper} {T s : Nat} {x : Operand} (ho : o.op = .box T x) {v : SV} {o1 : List Prop} (hx : opd t none x = some (v, o1)) (hob : All o1) (hs : ρ s = none) (hA : ARel X ρ n t a) (hM : MRel X ρ w m) (hW : WRel X w) :
  Runs P X ρ w m [s] (execOp a.eval o) (some (.sv (.one (.box s 0)))) [(s, some (.box T v.cells))] := by
 refine quk (cells := (a.eval x).cells) ?_ hs (qw hx hob (fun _ h => by cases h) hA).cells hM hW
 simp [execOp, ho, Instr.box, newVar, newRow]
theorem ql1 (w : World) : ∀ l : List Value, Own w (dOf l) l []
 | [] => ⟨rfl, rfl⟩
 | v :: l => ⟨l, rfl, ql1 w l⟩
theorem qh3 : ∀ l : List Value, (dOf l).len = l.length
 | [] => rfl
 | v :: l => by show (dOf l).len + 1 = _; rw [qh3 l]; rfl
theorem qji : ∀ {l : List Value}, (∀ v ∈ l, v.oneCell' = true) -> ones (dOf l)
 | [], _ => trivial
 | v :: l, h => ⟨h v (by simp), qji (fun x hx => h x (by simp [hx]))⟩
theorem qdi {s : Sem Next} {q T k : Nat} {l : List D} {v : Value} {w' : World} {bs u : List Nat} {B : Nat -> List Nat} (hB : MRelB X ρ w m B) (hr : s.run P w = .ok (.value v) w') (hs : ρ q = none) (hown : Own w' (rowC T k l) [v] bs) (hl : ∀ d ∈ l, d.len = k) (ho : ∀ d ∈ l, ones d)
  (hnd : bs.Nodup) (hu : ∀ r ∈ u, ∃ b, lk m r = some (some b)) (hsrc : ∀ x ∈ bs, (∃ r ∈ u, x ∈ B r) ∨ w.heap.size <= x) (hw : ∀ x, x < w.heap.size -> (∀ r ∈ u, x ∉ B r) -> w'.heap[x]? = w.heap[x]?)
  (h1 : w'.os = w.os) (h2 : w'.tape = w.tape) (h3 : w'.output = w.output) (h4 : w.heap.size <= w'.heap.size) (hW : WRel X w) :
  Runs P X ρ w m [q] s (some (.sv (.one (.hd q)))) ((q, some (.row T k l)) :: dropped u) := by
 have hx := qfj (x := v) hs
 obtain ⟨A, cap, e⟩ := qfh hown
 refine ⟨_, _, putE ρ q v, hr, ⟨qdh _ _ _, by rw [e]; rfl⟩, hx, qea, ?_, ?_⟩
 ·exact ⟨_, hB.upd hx q (.row T k l) bs u hu ⟨v, qdh _ _ _, hown, hl, ho⟩ hnd hsrc hW.lt hw (fun q' bq h => qfi h)⟩
 ·refine hW.upd h1 h2 h3 h4 (fun b hb => hw b (hW.lt b hb) (fun r hr hbr => ?_))
  obtain ⟨b', hb'⟩ := hu r hr
  exact hB.nf r b' hb' b hbr hb
theorem qwa {w : World} {T k l c : Nat} {z : D} {zc : List Value} (hz : ∀ w, Own w z zc []) (hk : zc.length = k) (h0 : 0 < k) (hl : z.len = k) (hlc : l <= c) (hc : c <= maxLen) :
  Own (w.alloc (.cells (madeCells zc.toArray (c * k)) T)) (rowC T k (List.replicate l z)) [.slice (some ⟨w.heap.size, 0, none⟩) l c] [w.heap.size] := by
 have hm : l * k <= c * k := Nat.mul_le_mul_right k hlc
 refine ⟨_, [], [w.heap.size], [], rfl, rfl, ⟨rfl, rfl⟩, Or.inr ⟨w.heap.size, 0, c, _, [], by rw [List.length_replicate], rfl, heap_alloc_new w _, by rw [List.length_replicate]; exact hlc, hc, by rw [size_madeCells]; omega, ?_⟩⟩
 rw [List.drop_zero, List.length_replicate]
 refine qo5 (hz _) hk l _ (by rw [List.length_take, Array.length_toList, size_madeCells]; omega) (fun j hj => ?_)
 rw [List.getElem?_take, if_pos hj, qo6 (by omega) (by omega), hk]
theorem qs0 (htt : TTok P tt) {o : Oper} {T s : Nat} {x y : Operand} (ho : o.op = .makeSlice T x y) {e : Eff} (he : qpc tt t s T x y = some e) (hob : All e.ob) (hs : ρ s = none) (hA : ARel X ρ n t a) (hM : MRel X ρ w m) (hW : WRel X w) :
  Runs P X ρ w m e.al (execOp a.eval o) e.v e.wr := by
 unfold qpc at he
 split at he
 ·rename_i i l o1 c o2 hT hx hy
  split at he
  ·rename_i el hd
   split at he
   ·rename_i ie hE
    obtain rfl := Option.some.inj he
    rw [qx, qx] at hob
    obtain ⟨hox, hoy, hlc, h0, h1, hby, hsz, _⟩ := hob
    have hg0 : GT none := fun _ h => by cases h
    have hex := (qw hx hox hg0 hA).1
    have hey := (qw hy hoy hg0 hA).1
    have hti := htt T i hT
    have hie := htt el ie hE
    obtain ⟨j, hj, hz, hjs, hjb⟩ := hie.parts
    obtain ⟨k, rfl⟩ := Int.eq_ofNat_of_zero_le h0
    obtain ⟨q, rfl⟩ := Int.eq_ofNat_of_zero_le (show 0 <= c by omega)
    have hq : q <= 1048576 := by omega
    have hbytes : j.bytes * q <= 281474976710656 := by rw [hjb]; exact Nat.le_trans (Nat.mul_le_mul hby hq) (by omega)
    have hb' : (j.bytes : Int) * (q : Int) <= 281474976710656 := by
     have h : ((j.bytes * q : Nat) : Int) <= 281474976710656 := by omega
     rwa [Int.natCast_mul] at h
    have hr := run_make (P := P) w T el j ie.z (by rw [hti.und, hd]) hj hz .i64 .i64 (k : Int) (q : Int) h0 hlc hb' (by omega)
    obtain ⟨B, hB⟩ := hM
    have hzs : ie.z.cells.toList.length = ie.size := by rw [Array.length_toList]; exact hie.zs
    have hown2 := qwa (w := w) (T := el) (l := k) (c := q) (z := dOf ie.z.cells.toList) (fun w => ql1 w _) hzs hsz (by rw [qh3, hzs]) (by omega) (by unfold maxLen; omega)
    simp only [Int.toNat_natCast, hjs] at hr
    rw [Int.toNat_natCast]
    rw [Array.toArray_toList] at hown2
    refine qdi (u := []) hB (v := .slice (some ⟨w.heap.size, 0, none⟩) k q) (w' := w.alloc (.cells (madeCells ie.z.cells (q * ie.size)) el)) ?_ hs hown2 ?_ ?_ (by simp) (fun _ h => by cases h) (fun x h => .inr (by simp at h; omega)) (fun x h _ => Below.heap_alloc _ _ _ h) rfl rfl rfl (by simp) hW
    ·simp [execOp, ho, hex, hey, hr]
    ·intro d hd'; rw [List.eq_of_mem_replicate hd', qh3, hzs]
    ·intro d hd'; rw [List.eq_of_mem_replicate hd']; exact qji (fun v hv => (List.all_eq_true.1 hie.z1) v hv)
   ·cases he
  ·cases he
 ·cases he
theorem qh4 {B : Nat -> List Nat} (hB : MRelB X ρ w m B) : ∀ {l : List CV} {vs : List Value} {d : D} {u : List Nat}, toD m l = some (d, u) -> qai X ρ l vs →
  ∃ b, Own w d vs b /\ b.Nodup /\ (∀ x ∈ b, ∃ r ∈ u, x ∈ B r) /\ d.len = l.length /\ ones d /\ ∀ r ∈ u, ∃ bq, lk m r = some (some bq)
 | [], [], d, u, h, _ => by
  simp [toD] at h; obtain ⟨rfl, rfl⟩ := h
  exact ⟨[], ⟨rfl, rfl⟩, by simp, by simp, rfl, trivial, by simp⟩
 | .lit v :: l, x :: vs, d, u, h, hc => by
  unfold toD at h
  split at h
  ·rename_i d' u' h'
   simp at h; obtain ⟨rfl, rfl⟩ := h
   obtain ⟨b, h1, h2, h3, h4, h5, h6⟩ := qh4 hB h' hc.2
   obtain ⟨rfl, hv⟩ := hc.1
   exact ⟨b, ⟨vs, rfl, h1⟩, h2, h3, by show d'.len + 1 = _; rw [h4]; rfl, ⟨hv, h5⟩, h6⟩
  ·cases h
 | .hd r :: l, x :: vs, d, u, h, hc => by
  unfold toD at h
  split at h
  ·rename_i T k es d' u' hr h'
   split at h
   ·rename_i hn
    simp at h; obtain ⟨rfl, rfl⟩ := h
    obtain ⟨b, h1, h2, h3, h4, h5, h6⟩ := qh4 hB h' hc.2
    obtain ⟨y, hy, hown, hl, hon⟩ := hB.blk r _ hr
    rw [hc.1.1] at hy
    obtain rfl := Option.some.inj hy
    have hnr := qcl hn
    obtain ⟨v', vs', c1, c2, e1, e2, ⟨rfl, rfl⟩, e4⟩ := hown
    obtain ⟨rfl, _⟩ := List.cons.inj e1
    have hc1 : c1 = B r := by rw [e2, List.append_nil]
    refine ⟨B r ++ b, ⟨x, vs, B r, b, rfl, rfl, h1, hc1 ▸ e4⟩, ?_, ?_, by show d'.len + 1 = _; rw [h4]; rfl, ⟨?_, h5⟩, ?_⟩
    ·rw [List.nodup_append]
     refine ⟨hB.nd r _ hr, h2, fun p hp q hq e => ?_⟩
     subst e
     obtain ⟨r', hr', hpr⟩ := h3 p hq
     obtain ⟨bq, hbq⟩ := h6 r' hr'
     exact hB.dj r r' _ _ (fun e => hnr (e ▸ hr')) hr hbq p hp hpr
    ·intro p hp
     rw [List.mem_append] at hp
     rcases hp with hp | hp
     ·exact ⟨r, by simp, hp⟩
     ·obtain ⟨r', h7, h8⟩ := h3 p hp; exact ⟨r', by simp [h7], h8⟩
    ·clear e4 hl hr e2 hc1
     induction es with
     | nil => trivial
     | cons d l ih =>
      have : ∀ {a b : D}, ones a -> ones b -> ones (a.app b) := by
       intro a
       induction a with
       | nil => intro b _ hb; exact hb
       | lit v r ih => intro b ha hb; exact ⟨ha.1, ih ha.2 hb⟩
       | row T k n c r _ ih => intro b ha hb; exact ⟨ha.1, ih ha.2 hb⟩
      exact this (hon d (by simp)) (ih (fun d hd => hon d (by simp [hd])))
    ·intro r' hr'
     rw [List.mem_cons] at hr'
     rcases hr' with rfl | hr'
     ·exact ⟨_, hr⟩
     ·exact h6 r' hr'
   ·cases h
  ·cases h
 | .ro .. :: _, _ :: _, _, _, h, _ => by simp [toD] at h
 | .box .. :: _, _ :: _, _, _, h, _ => by simp [toD] at h
 | .el .. :: _, _ :: _, _, _, h, _ => by simp [toD] at h
 | .roel .. :: _, _ :: _, _, _, h, _ => by simp [toD] at h
 | .ifro .. :: _, _ :: _, _, _, h, _ => by simp [toD] at h
 | .fn .. :: _, _ :: _, _, _, h, _ => by simp [toD] at h
 | .part .. :: _, _ :: _, _, _, h, _ => by simp [toD] at h
 | [], _ :: _, _, _, _, h => h.elim
 | _ :: _, [], _, _, _, h => h.elim
end
theorem qmz : ∀ {a b : D}, ones a -> ones b -> ones (a.app b)
 | .nil, _, _, hb => hb
 | .lit _ _, _, ha, hb => ⟨ha.1, qmz ha.2 hb⟩
 | .row _ _ _ _ _, _, ha, hb => ⟨ha.1, qmz ha.2 hb⟩
theorem qjj : ∀ {l : List D}, (∀ d ∈ l, ones d) -> ones (D.cat l)
 | [], _ => trivial
 | d :: l, h => qmz (h d (by simp)) (qjj (fun x hx => h x (by simp [hx])))
theorem qm0 {w : World} {v : Value} : ∀ {d : D} {us : List Value} {b : List Nat} {j : Nat}, Own w d us b -> j < d.len -> ∃ b', Own w (dSet d j (.lit v)) (us.set j v) b' /\ b'.Sublist b /\ (dSet d j (.lit v)).len = d.len
 | .nil, _, _, _, _, h => by cases h
 | .lit x r, us, b, 0, ho, _ => by
  obtain ⟨vs, rfl, ho⟩ := ho
  exact ⟨b, ⟨vs, rfl, ho⟩, List.Sublist.refl _, rfl⟩
 | .row T k n c r, us, b, 0, ho, _ => by
  obtain ⟨x, vs, b1, b2, rfl, rfl, ho, _⟩ := ho
  exact ⟨b2, ⟨vs, rfl, ho⟩, List.sublist_append_right _ _, rfl⟩
 | .lit x r, us, b, j + 1, ho, h => by
  obtain ⟨vs, rfl, ho⟩ := ho
  obtain ⟨b', h1, h2, h3⟩ := qm0 (v := v) ho (j := j) (by have : j + 1 < r.len + 1 := h; omega)
  exact ⟨b', ⟨_, rfl, h1⟩, h2, by show (dSet r j _).len + 1 = _; rw [h3]; rfl⟩
 | .row T k n c r, us, b, j + 1, ho, h => by
  obtain ⟨x, vs, b1, b2, rfl, rfl, ho, e⟩ := ho
  obtain ⟨b', h1, h2, h3⟩ := qm0 (v := v) ho (j := j) (by have : j + 1 < r.len + 1 := h; omega)
  exact ⟨b1 ++ b', ⟨x, _, b1, b', rfl, rfl, h1, e⟩, List.Sublist.append_left h2 _, by show (dSet r j _).len + 1 = _; rw [h3]; rfl⟩
theorem qm1 {w : World} {v : Value} {T k n : Nat} {c : D} {bx : List Nat} (hx : Own w (.row T k n c .nil) [v] bx) : ∀ {d : D} {us : List Value} {b : List Nat} {j : Nat}, Own w d us b -> j < d.len →
  ∃ b1 b2, Own w (dSet d j (.row T k n c)) (us.set j v) (b1 ++ (bx ++ b2)) /\ (b1 ++ b2).Sublist b /\ (dSet d j (.row T k n c)).len = d.len
 | .nil, _, _, _, _, h => by cases h
 | .lit x r, us, b, 0, ho, _ => by
  obtain ⟨vs, rfl, ho⟩ := ho
  obtain ⟨v', vs', c1, c2, e1, e2, ⟨rfl, rfl⟩, e4⟩ := hx
  obtain ⟨rfl, _⟩ := List.cons.inj e1
  exact ⟨[], b, ⟨v, vs, bx, b, rfl, rfl, ho, by rw [e2, List.append_nil]; exact e4⟩, List.Sublist.refl _, rfl⟩
 | .row T' k' n' c' r, us, b, 0, ho, _ => by
  obtain ⟨x, vs, b1, b2, rfl, rfl, ho, _⟩ := ho
  obtain ⟨v', vs', c1, c2, e1, e2, ⟨rfl, rfl⟩, e4⟩ := hx
  obtain ⟨rfl, _⟩ := List.cons.inj e1
  exact ⟨[], b2, ⟨v, vs, bx, b2, rfl, rfl, ho, by rw [e2, List.append_nil]; exact e4⟩, List.sublist_append_right _ _, rfl⟩
 | .lit x r, us, b, j + 1, ho, h => by
  obtain ⟨vs, rfl, ho⟩ := ho
  obtain ⟨b1, b2, h1, h2, h3⟩ := qm1 hx ho (j := j) (by have : j + 1 < r.len + 1 := h; omega)
  exact ⟨b1, b2, ⟨_, rfl, h1⟩, h2, by show (dSet r j _).len + 1 = _; rw [h3]; rfl⟩
 | .row T' k' n' c' r, us, b, j + 1, ho, h => by
  obtain ⟨x, vs, q1, q2, rfl, rfl, ho, e⟩ := ho
  obtain ⟨b1, b2, h1, h2, h3⟩ := qm1 hx ho (j := j) (by have : j + 1 < r.len + 1 := h; omega)
  exact ⟨q1 ++ b1, b2, ⟨x, _, q1, b1 ++ (bx ++ b2), rfl, by simp, h1, e⟩, by rw [List.append_assoc]; exact List.Sublist.append_left h2 _, by show (dSet r j _).len + 1 = _; rw [h3]; rfl⟩
theorem qgb : ∀ {d : D} {j : Nat} {x : Cell}, ones d -> (∀ v, x = .lit v -> v.oneCell' = true) -> (∀ T k n c, x = .row T k n c -> ones c) -> ones (dSet d j x)
 | .nil, _, _, _, _, _ => trivial
 | .lit _ r, 0, .lit v, h, h1, _ => ⟨h1 v rfl, h.2⟩
 | .lit _ r, 0, .row T k n c, h, _, h2 => ⟨h2 _ _ _ _ rfl, h.2⟩
 | .row _ _ _ _ r, 0, .lit v, h, h1, _ => ⟨h1 v rfl, h.2⟩
 | .row _ _ _ _ r, 0, .row T k n c, h, _, h2 => ⟨h2 _ _ _ _ rfl, h.2⟩
 | .lit _ r, j + 1, x, h, h1, h2 => ⟨h.1, qgb h.2 h1 h2⟩
 | .row _ _ _ _ r, j + 1, x, h, h1, h2 => ⟨h.1, qgb h.2 h1 h2⟩
theorem qm2 {us vs : List Value} {j : Nat} {v : Value} (hj : j < us.length) : (us.set j v).take (j + 1) ++ (vs ++ (us.set j v).drop (j + 1 + vs.length)) = us.take j ++ ((v :: vs) ++ us.drop (j + (vs.length + 1))) := by
 rw [List.take_add_one, List.take_set_of_le (Nat.le_refl _), List.getElem?_set_self hj, List.drop_set_of_lt (by omega), show j + 1 + vs.length = j + (vs.length + 1) by omega]
 simp
theorem qm3 {w : World} : ∀ {e : D} {d : D} {us vs : List Value} {b be : List Nat} {j : Nat}, Own w d us b -> Own w e vs be -> b.Nodup -> be.Nodup -> (∀ y ∈ be, y ∉ b) -> j + e.len <= d.len →
  ∃ b', Own w (dPut d j e) (us.take j ++ (vs ++ us.drop (j + vs.length))) b' /\ b'.Nodup /\ (∀ y ∈ b', y ∈ b ∨ y ∈ be) /\ (dPut d j e).len = d.len
 | .nil, d, us, vs, b, be, j, ho, he, hb, _, _, _ => by
  obtain ⟨rfl, rfl⟩ := he
  refine ⟨b, ?_, hb, fun y hy => .inl hy, ?_⟩
  ·cases d <;> simpa [dPut] using ho
  ·cases d <;> simp [dPut]
 | .lit v e, d, us, vs, b, be, j, ho, he, hb, hbe, hdis, hl => by
  obtain ⟨vs', rfl, he⟩ := he
  have hl' : j + (e.len + 1) <= d.len := hl
  obtain ⟨b1, h1, h2, h3⟩ := qm0 (v := v) ho (j := j) (by omega)
  obtain ⟨b', g1, g2, g3, g4⟩ := qm3 h1 he (hb.sublist h2) hbe (fun y hy hy' => hdis y hy (h2.subset hy')) (j := j + 1) (by rw [h3]; omega)
  have hul := qdg _ ho
  rw [qm2 (by omega)] at g1
  refine ⟨b', ?_, g2, fun y hy => (g3 y hy).imp (fun h => h2.subset h) id, ?_⟩
  ·have : dPut d j (.lit v e) = dPut (dSet d j (.lit v)) (j + 1) e := by cases d <;> rfl
   rw [this]; simpa using g1
  ·have : dPut d j (.lit v e) = dPut (dSet d j (.lit v)) (j + 1) e := by cases d <;> rfl
   rw [this, g4, h3]
 | .row T k n c e, d, us, vs, b, be, j, ho, he, hb, hbe, hdis, hl => by
  obtain ⟨v, vs', c1, c2, rfl, rfl, he, hv⟩ := he
  have hl' : j + (e.len + 1) <= d.len := hl
  have hx : Own w (.row T k n c .nil) [v] c1 := ⟨v, [], c1, [], rfl, by simp, ⟨rfl, rfl⟩, hv⟩
  obtain ⟨p1, p2, h1, h2, h3⟩ := qm1 hx ho (j := j) (by omega)
  rw [List.nodup_append] at hbe
  obtain ⟨n1, n2, n3⟩ := hbe
  have hn : (p1 ++ (c1 ++ p2)).Nodup := by
   have h4 := hb.sublist h2
   rw [List.nodup_append] at h4 ⊢
   rw [List.nodup_append]
   refine ⟨h4.1, ⟨n1, h4.2.1, fun a ha c hc e => ?_⟩, fun a ha c hc e => ?_⟩
   ·subst e; exact hdis a (by simp [ha]) (h2.subset (by simp [hc]))
   ·subst e
    rw [List.mem_append] at hc
    rcases hc with hc | hc
    ·exact hdis a (by simp [hc]) (h2.subset (by simp [ha]))
    ·exact h4.2.2 a ha a hc rfl
  obtain ⟨b', g1, g2, g3, g4⟩ := qm3 h1 he hn n2 (fun y hy hy' => by
   simp only [List.mem_append] at hy'
   rcases hy' with hy' | hy' | hy'
   ·exact hdis y (by simp [hy]) (h2.subset (by simp [hy']))
   ·exact n3 y hy' y hy rfl
   ·exact hdis y (by simp [hy]) (h2.subset (by simp [hy']))) (j := j + 1) (by rw [h3]; omega)
  have hul := qdg _ ho
  rw [qm2 (by omega)] at g1
  have hd : dPut d j (.row T k n c e) = dPut (dSet d j (.row T k n c)) (j + 1) e := by cases d <;> rfl
  refine ⟨b', by rw [hd]; simpa using g1, g2, fun y hy => ?_, by rw [hd, g4, h3]⟩
  rcases g3 y hy with h | h
  ·simp only [List.mem_append] at h
   rcases h with h | h | h
   ·exact .inl (h2.subset (by simp [h]))
   ·exact .inr (by simp [h])
   ·exact .inl (h2.subset (by simp [h]))
  ·exact .inr (by simp [h])
theorem qkj : ∀ {e d : D} {j : Nat}, ones d -> ones e -> ones (dPut d j e)
 | .nil, d, j, h, _ => by cases d <;> simpa [dPut] using h
 | .lit v e, d, j, h, he => by
  have hd : dPut d j (.lit v e) = dPut (dSet d j (.lit v)) (j + 1) e := by cases d <;> rfl
  rw [hd]
  exact qkj (qgb h (fun v' hv => by cases hv; exact he.1) (fun _ _ _ _ hv => by cases hv)) he.2
 | .row T k n c e, d, j, h, he => by
  have hd : dPut d j (.row T k n c e) = dPut (dSet d j (.row T k n c)) (j + 1) e := by cases d <;> rfl
  rw [hd]
  exact qkj (qgb h (fun v' hv => by cases hv) (fun _ _ _ _ hv => by cases hv; exact he.1)) he.2
theorem Mid.widen {cur cur' : Array Value} {p j n k : Nat} {us vs : List Value} (h : Mid cur cur' (p + j) n vs) (hu : us = (cur.toList.drop p).take k) (hj : j + n <= k) (hp : p + k <= cur.size) : Mid cur cur' p k (us.take j ++ (vs ++ us.drop (j + n))) := by
 obtain ⟨h1, h2, h3, h4⟩ := h
 have hcl : cur.toList.length = cur.size := Array.length_toList
 have hul : us.length = k := by rw [hu, List.length_take, List.length_drop]; omega
 refine ⟨by simp only [List.length_append, List.length_take, List.length_drop]; omega, hp, h3, ?_⟩
 rw [h4]
 apply List.ext_getElem?
 intro x
 have hux : ∀ y, y < k -> us[y]? = cur.toList[p + y]? := fun y hy => by rw [hu, List.getElem?_take, if_pos hy, List.getElem?_drop]
 by_cases c1 : x < p
 ·rw [List.getElem?_append_left (by rw [List.length_take]; omega), List.getElem?_append_left (by rw [List.length_take]; omega), List.getElem?_take, if_pos (by omega), List.getElem?_take, if_pos c1]
 ·rw [List.getElem?_append_right (l₁ := cur.toList.take p) (by rw [List.length_take]; omega)]
  have e1 : (cur.toList.take p).length = p := by rw [List.length_take]; omega
  rw [e1]
  by_cases c2 : x < p + j
  ·rw [List.getElem?_append_left (by rw [List.length_take]; omega), List.getElem?_take, if_pos c2]
   rw [List.getElem?_append_left (by simp only [List.length_append, List.length_take, List.length_drop]; omega), List.getElem?_append_left (by rw [List.length_take]; omega), List.getElem?_take, if_pos (by omega), hux _ (by omega)]
   congr 1; omega
  ·rw [List.getElem?_append_right (by rw [List.length_take]; omega)]
   have e2 : (cur.toList.take (p + j)).length = p + j := by rw [List.length_take]; omega
   rw [e2]
   by_cases c3 : x < p + j + n
   ·rw [List.getElem?_append_left (by omega)]
    rw [List.getElem?_append_left (by simp only [List.length_append, List.length_take, List.length_drop]; omega), List.getElem?_append_right (by rw [List.length_take]; omega), List.length_take, Nat.min_eq_left (by omega), List.getElem?_append_left (by omega)]
    congr 1; omega
   ·rw [List.getElem?_append_right (by omega), h1, List.getElem?_drop]
    by_cases c4 : x < p + k
    ·rw [List.getElem?_append_left (by simp only [List.length_append, List.length_take, List.length_drop]; omega), List.getElem?_append_right (by rw [List.length_take]; omega), List.length_take, Nat.min_eq_left (by omega), List.getElem?_append_right (by omega), h1, List.getElem?_drop, hux _ (by omega)]
     congr 1; omega
    ·rw [List.getElem?_append_right (by simp only [List.length_append, List.length_take, List.length_drop]; omega), List.getElem?_drop]
     simp only [List.length_append, List.length_take, List.length_drop]
     congr 1; omega
section
variable {P : Program} {X : Cx} {ρ : Env} {w : World} {m : ML} {tt : TT} {t : TL} {n : Nat} {a : Act} {g : Option Bool}
theorem qpl {T : Nat} {i : TI} (h : TIok P T i) {b o T' : Nat} {cur : Array Value} {x : Value} (hg : w.heap[b]? = some (.cells cur T' (0, 0))) (hs : x.cells.size = i.size) (hl : o + i.size <= cur.size) (h1 : ∀ v ∈ x.cells.toList, v.oneCell' = true) :
  (Instr.storeAt T (.pointer (some ⟨b, o, none⟩)) x).run P w = .ok () (w.setCells b o x.cells.toList) := by
 have hlen : x.cells.toList.length = i.size := by rw [Array.length_toList, hs]
 have := run_storeCells_cells (P := P) b o x.cells.toList 0 w (fun j hj => by rw [Nat.add_zero, cell_of_block hg]; simp; omega) (fun j hj => qii hg _) h1
 rw [Nat.add_zero] at this
 simp [Instr.storeAt, Instr.sureAddr, storeVar, jm h.size, hs, this]
theorem qfu (g : Nat) : ∀ (vs : List Value) (o : Nat) (w : World), (w.setCells g o vs).os = w.os /\ (w.setCells g o vs).tape = w.tape /\ (w.setCells g o vs).output = w.output /\ (w.setCells g o vs).heap.size = w.heap.size
 | [], _, _ => ⟨rfl, rfl, rfl, rfl⟩
 | v :: r, o, w => by
  obtain ⟨h1, h2, h3, h4⟩ := qfu g r (o + 1) (w.setCell ⟨g, o, none⟩ v)
  exact ⟨h1, h2, h3, by rw [World.setCells, h4]; simp [World.setCell]⟩
theorem qqu (htt : TTok P tt) {o : Oper} {T : Nat} {x y : Operand} {inp : Inp} (ho : o.op = .store T x y) {e : Eff} (he : qlx tt t m inp T x y = some e) (hob : All e.ob) (hA : ARel X ρ n t a) (hM : MRel X ρ w m) (hW : WRel X w) :
  Runs P X ρ w m e.al (execOp a.eval o) e.v e.wr := by
 have hg0 : GT none := fun _ h => by cases h
 unfold qlx at he
 split at he
 ·rename_i i v o2 hT hy
  split at he
  ·cases he
  ·rename_i hsz
   have hti := htt T i hT
   have hvl : v.cells.length = i.size := by rw [← qft, ← Nat.beq_eq]; exact hsz
   obtain ⟨B, hB⟩ := hM
   have fin : ∀ {g0 o0 T' : Nat} {cur : Array Value}, a.eval x = .pointer (some ⟨g0, o0, none⟩) -> SRel X ρ v (a.eval y) -> w.heap[g0]? = some (.cells cur T' (0, 0)) -> o0 + i.size <= cur.size -> (execOp a.eval o).run P w = .ok .skip (w.setCells g0 o0 (a.eval y).cells.toList) := by
    intro g0 o0 T' cur hex hv hcur hl
    have hc := hv.cells
    have := qpl (P := P) (w := w) hti hcur (o := o0) (x := a.eval y) (by rw [← Array.length_toList, ← hc.len, hvl]) hl hc.one
    simp [execOp, ho, hex, this]
   split at he
   ·rename_i r j o1 hx
    split at he
    ·rename_i T' vs hr
     split at he
     ·rename_i vs' hp
      obtain rfl := Option.some.inj he
      rw [qx] at hob
      obtain ⟨g0, hρ, hex⟩ := qw hx hob.1 hg0 hA
      have hv := qw hy hob.2 hg0 hA
      obtain ⟨g1, cur, h1, h2, h3, h4⟩ := hB.blk r _ hr
      rw [hρ] at h1
      have : g0 = g1 := by simpa using h1
      subst this
      obtain ⟨rfl, hlen⟩ := ql0 _ _ _ _ hp
      have hcl : cur.toList.length = cur.size := Array.length_toList
      have hvc := h4.len
      have hyl := hv.cells.len
      have hfit : j + i.size <= cur.size := by omega
      obtain ⟨cur', k1, k2, k3, k4, k5⟩ := qh2 (a.eval y).cells.toList j w cur h2 (by omega)
      obtain ⟨q1, q2, q3, q4⟩ := qfu g0 (a.eval y).cells.toList j w
      have hgF : ¬ X.G g0 := hB.nf r _ hr g0 (by rw [h3]; simp)
      refine ⟨_, _, ρ, fin hex hv h2 hfit, trivial, Ext.refl ρ, fun _ _ h => .inl h, ?_, hW.upd q1 q2 q3 (Nat.le_of_eq q4.symm) (fun b hb => qf8 _ _ _ _ (fun e => hgF (e ▸ hb)))⟩
      refine ⟨_, hB.upd (Ext.refl ρ) r (.box T' (vs.take j ++ (v.cells ++ vs.drop (j + v.cells.length)))) [g0] [r] (fun q hq => by obtain rfl := List.mem_singleton.1 hq; exact ⟨_, hr⟩) ⟨g0, cur', hρ, k1, rfl, ?_⟩ (by simp) (fun z hz => .inl ⟨r, by simp, by rw [h3]; exact hz⟩) hW.lt (fun z _ hz => qf8 _ _ _ _ (fun e => hz r (by simp) (by rw [h3, e]; simp))) (fun q bq h => ?_)⟩
      ·rw [k5]
       refine (h4.take j).append (hv.cells.append ?_)
       rw [hyl]
       exact h4.drop _
      ·rcases qfi (u := []) h with h | ⟨h, _, h'⟩
       ·exact .inl h
       ·exact .inr ⟨h, by simpa using h, h'⟩
     ·cases he
    ·cases he
   ·rename_i r k ii j o1 hx
    split at he
    ·rename_i T' k' l d ed u hr hcd
     split at he
     ·rename_i hkk hur
      obtain rfl := Option.some.inj he
      rw [qx, qx] at hob
      obtain ⟨hox, hoy, hd, hjl, _⟩ := hob
      have : k = k' := by rw [← Nat.beq_eq]; exact hkk
      subst this
      have hur' := qcl hur
      obtain ⟨g0, o0, n0, cap, hρ, hex⟩ := qw hx hox hg0 hA
      have hv := qw hy hoy hg0 hA
      obtain ⟨z, h1, hown, hlen, hon⟩ := hB.blk r _ hr
      rw [hρ] at h1
      obtain rfl := Option.some.inj h1
      have hil : ii < l.length := by
       rcases Nat.lt_or_ge ii l.length with h' | h'
       ·exact h'
       ·rw [List.getElem?_eq_none h'] at hd; cases hd
      obtain ⟨be, p1, p2, p3, p4, p5, p6⟩ := qh4 hB hcd hv.cells
      obtain ⟨g1, o1', cur, d', us, b, e1, _, hgb, hcur, hmid, hd', hod, hbb, hbn, hset⟩ := qxo hown (hB.nd r _ hr) hlen hil
      rw [hd] at hd'
      obtain rfl := Option.some.inj hd'
      have e2 : g0 = g1 /\ o0 = o1' := by simpa using e1
      obtain ⟨rfl, rfl⟩ := e2
      have hus := hmid.us
      have hul := hmid.1
      have hfit0 := hmid.2.1
      have hdl : d.len = k := hlen d (List.mem_of_getElem? hd)
      have hyl := hv.cells.len
      have hvd : (a.eval y).cells.toList.length = i.size := by rw [← hyl, hvl]
      have hfit : o0 + ii * k + j + i.size <= cur.size := by omega
      obtain ⟨cur', k1, k2⟩ := qh2 (a.eval y).cells.toList (o0 + ii * k + j) w cur hcur (by omega)
      obtain ⟨q1, q2, q3, q4⟩ := qfu g0 (a.eval y).cells.toList (o0 + ii * k + j) w
      have hBg : ∀ q bq, lk m q = some (some bq) -> q ≠ r -> g0 ∉ B q := fun q bq hq hqr => hB.dj r q _ _ (fun e => hqr e.symm) hr hq g0 hgb
      have hgF : ¬ X.G g0 := hB.nf r _ hr g0 hgb
      have hbed : ∀ y' ∈ be, y' ∉ B r := by
       intro y' hy' hyr
       obtain ⟨r', hr', hy2⟩ := p3 y' hy'
       obtain ⟨bq, hbq⟩ := p6 r' hr'
       exact hB.dj r' r _ _ (fun e => hur' (e ▸ hr')) hbq hr y' hy2 hyr
      have hsame : ∀ y', y' ≠ g0 -> (w.setCells g0 (o0 + ii * k + j) (a.eval y).cells.toList).heap[y']? = w.heap[y']? := fun y' hy' => qf8 _ _ _ _ hy'
      obtain ⟨b', w1, w2, w3, w4⟩ := qm3 (qbo d hod (fun y' hy' => hsame y' (hbb y' hy').2)) (qbo ed p1 (fun y' hy' => hsame y' (fun e => hbed y' hy' (e ▸ hgb)))) hbn p2 (fun y' hy' hy2 => hbed y' hy' (hbb y' hy2).1) (j := j) (by rw [p4, hvl]; exact hjl)
      have hmid2 := Mid.widen k2 hus (by rw [hvd, ← hdl]; exact hjl) hfit0
      obtain ⟨bs', x1, x2, x3, x4⟩ := hset _ cur' _ (dPut d j ed) b' k1 hmid2 (fun y' hy' hyg _ => hsame y' hyg) w1
      have hnd' := x4 w2 (fun y' hy' => by
       rcases w3 y' hy' with h | h
       ·exact .inr h
       ·exact .inl (hbed y' h))
      refine ⟨_, _, ρ, fin hex hv hcur hfit, trivial, Ext.refl ρ, fun _ _ h => .inl h, ?_, hW.upd q1 q2 q3 (Nat.le_of_eq q4.symm) (fun b hb => hsame _ (fun e => hgF (e ▸ hb)))⟩
      refine ⟨_, hB.upd (Ext.refl ρ) r (.row T' k (l.set ii (dPut d j ed))) bs' (r :: u) ?_ ⟨_, hρ, x1, ?_, ?_⟩ hnd' ?_ hW.lt (fun z _ hz => hsame z (fun e => hz r (by simp) (by rw [e]; exact hgb))) (fun q bq h => ?_)⟩
      ·intro q hq
       rw [List.mem_cons] at hq
       rcases hq with rfl | hq
       ·exact ⟨_, hr⟩
       ·exact p6 q hq
      ·intro d2 hd2
       rcases List.mem_or_eq_of_mem_set hd2 with h | h
       ·exact hlen d2 h
       ·rw [h, w4, hdl]
      ·intro d2 hd2
       rcases List.mem_or_eq_of_mem_set hd2 with h | h
       ·exact hon d2 h
       ·rw [h]; exact qkj (hon d (List.mem_of_getElem? hd)) p5
      ·intro z hz
       rcases x3 z hz with h | h
       ·exact .inl ⟨r, by simp, h⟩
       ·rcases w3 z h with h | h
        ·exact .inl ⟨r, by simp, (hbb z h).1⟩
        ·obtain ⟨r', h5, h6⟩ := p3 z h
         exact .inl ⟨r', by simp [h5], h6⟩
      ·rcases qfi h with h | ⟨h, h2, h'⟩
       ·exact .inl h
       ·exact .inr ⟨h, by rw [List.mem_cons]; rintro (e | e); exact h e; exact h2 e, h'⟩
     ·cases he
    ·cases he
   ·cases he
 ·cases he
end
theorem qqv (off : Nat) : ∀ (l : List Value) (k : Nat) (cells : Array Value), off + k + l.length <= cells.size →
  Mid cells ((l.zipIdx k).foldl (fun cs p => cs.setIfInBounds (off + p.2) p.1) cells) (off + k) l.length l
 | [], k, cells, h => ⟨rfl, h, rfl, by simp⟩
 | v :: l, k, cells, h => by
  have h' : off + (k + 1) + l.length <= cells.size := by rw [List.length_cons] at h; omega
  have hcl : cells.toList.length = cells.size := Array.length_toList
  obtain ⟨h2, h3, h4, h5⟩ := qqv off l (k + 1) (cells.setIfInBounds (off + k) v) (by rw [Array.size_setIfInBounds]; exact h')
  rw [List.zipIdx_cons, List.foldl_cons]
  refine ⟨rfl, h, by rw [h4, Array.size_setIfInBounds], ?_⟩
  rw [h5, Array.toList_setIfInBounds, List.length_cons, show off + (k + 1) = off + k + 1 by omega, List.drop_set_of_lt (by omega), List.take_add_one, List.take_set_of_le (Nat.le_refl _), List.getElem?_set_self (by omega), show off + k + 1 + l.length = off + k + (l.length + 1) by omega]
  simp
theorem qoa (v : Value) (off : Nat) (cells : Array Value) (h : off + v.cells.size <= cells.size) : Mid cells (v.cells.zipIdx.foldl (fun cs (c, j) => cs.setIfInBounds (off + j) c) cells) off v.cells.toList.length v.cells.toList := by
 have := qqv off v.cells.toList 0 cells (by rw [Array.length_toList]; omega)
 rw [← Array.foldl_toList, Array.toList_zipIdx]
 exact this
section
variable {P : Program} {X : Cx} {ρ : Env} {w : World} {m : ML} {tt : TT} {t : TL} {n : Nat} {a : Act} {g : Option Bool}
def qqw (X : Cx) (ρ : Env) : List (Nat × SV) -> List (Nat × Value) -> Prop
 | [], [] => True
 | (i, s) :: l, (j, v) :: vs => i = j /\ SRel X ρ s v /\ qqw X ρ l vs
 | _, _ => False
theorem qdc (hg : GT g) (hA : ARel X ρ n t a) : ∀ {ps : List (Nat × Operand)} {vs : List (Nat × SV)} {o1 : List Prop}, partsOf t g ps = some (vs, o1) -> All o1 -> qqw X ρ vs (ps.map fun p => (p.1, a.eval p.2))
 | [], vs, o1, h, _ => by simp [partsOf] at h; obtain ⟨rfl, rfl⟩ := h; trivial
 | (i, x) :: ps, vs, o1, h, ho => by
  unfold partsOf at h
  split at h
  ·rename_i v p1 qs p2 hx hq
   simp at h
   obtain ⟨rfl, rfl⟩ := h
   rw [qx] at ho
   exact ⟨rfl, qw hx ho.1 hg hA, qdc hg hA hq ho.2⟩
  ·cases h
theorem qiv {fs : List (Nat × Nat × Bool)} {place : Nat -> Option (Nat × Nat)} (hp : ∀ i off sz ag, nth fs i = some (off, sz, ag) -> place i = some (off, sz)) : ∀ {ps : List (Nat × SV)} {vals : List (Nat × Value)} {cs l : List CV} {cells : Array Value},
  qn6 fs cs ps = some l -> qqw X ρ ps vals -> qai X ρ cs cells.toList -> ∃ cells', Instr.fill place cells vals = some cells' /\ qai X ρ l cells'.toList
 | [], [], cs, l, cells, h, _, hc => by
  simp [qn6] at h; subst h; exact ⟨cells, rfl, hc⟩
 | (i, s) :: ps, (j, v) :: vals, cs, l, cells, h, hr, hc => by
  unfold qn6 at h
  split at h
  ·rename_i off sz ag hn
   split at h
   ·rename_i cs' hsz hpl
    obtain ⟨rfl, hs, hr⟩ := hr
    have hsl : s.cells.length = sz := by rw [← qft, ← Nat.beq_eq]; exact hsz
    have hvl : v.cells.size = sz := by rw [← Array.length_toList, ← hs.cells.len, hsl]
    obtain ⟨rfl, hlen⟩ := ql0 _ _ _ _ hpl
    have hcl : cells.toList.length = cells.size := Array.length_toList
    have hcs := hc.len
    have hfit : off + v.cells.size <= cells.size := by omega
    have hm := qoa v off cells hfit
    have hc2 : qai X ρ (cs.take off ++ (s.cells ++ cs.drop (off + s.cells.length))) (v.cells.zipIdx.foldl (fun cs (c, j) => cs.setIfInBounds (off + j) c) cells).toList := by
     rw [hm.2.2.2]
     refine (hc.take off).append (hs.cells.append ?_)
     rw [hs.cells.len]
     exact hc.drop _
    obtain ⟨cells', h1, h2⟩ := qiv hp h hr hc2
    refine ⟨cells', ?_, h2⟩
    unfold Instr.fill
    rw [hp i off sz ag hn]
    have hc3 : (v.cells.size ≠ sz || off + v.cells.size > cells.size) = false := by simp; omega
    simp only [hc3]
    exact h1
   ·cases h
  ·cases h
 | [], _ :: _, _, _, _, _, h, _ => h.elim
 | _ :: _, [], _, _, _, _, h, _ => h.elim
theorem qob : ∀ {fields : List Field} {fs : List (Nat × Nat × Bool)}, fields.map (fun f => (f.offset, (P.info? f.type).map (·.size), (P.underlying f.type).map qgr)) = fs.map (fun x => (x.1, some x.2.1, some x.2.2)) →
  fields.mapM (fun f => (P.info? f.type).map fun i => (f.offset, i.size)) = some (fs.map fun x => (x.1, x.2.1))
 | [], [], _ => rfl
 | f :: fields, x :: fs, h => by
  simp only [List.map_cons, List.cons.injEq, Prod.mk.injEq] at h
  obtain ⟨⟨h1, h2, _⟩, h3⟩ := h
  have ih := qob h3
  cases hq : P.info? f.type with
  | none => simp [hq] at h2
  | some j =>
   simp [hq] at h2
   simp only [List.mapM_cons, hq, Option.map_some, ih, h1, h2]
   rfl
 | [], _ :: _, h => by simp at h
 | _ :: _, [], h => by simp at h
theorem qoc {sz : Nat} {ag : Bool} : ∀ {N o i off s : Nat} {b : Bool}, nth (qud sz ag N o) i = some (off, s, b) -> off = o + i * sz /\ s = sz
 | 0, _, _, _, _, _, h => by cases h
 | N + 1, o, 0, off, s, b, h => by
  obtain ⟨rfl, rfl, _⟩ : o = off /\ sz = s /\ ag = b := by simpa [qud, nth] using h
  exact ⟨by omega, rfl⟩
 | N + 1, o, i + 1, off, s, b, h => by
  obtain ⟨h1, h2⟩ := qoc (N := N) (o := o + sz) (i := i) h
  refine ⟨?_, h2⟩
  rw [h1, Nat.succ_mul]; omega
theorem qqx (htt : TTok P tt) {o : Oper} {T : Nat} {ps : Array (Nat × Operand)} (ho : o.op = .build T ps) {e : Eff} (he : qpb tt t g T ps.toList = some e) (hob : All e.ob) (hg : GT g) (hA : ARel X ρ n t a) (hM : MRel X ρ w m) (hW : WRel X w) :
  Runs P X ρ w m e.al (execOp a.eval o) e.v e.wr := by
 unfold qpb at he
 split at he
 ·rename_i i vs o1 hT hp
  split at he
  ·rename_i N el hd
   split at he
   ·rename_i ie hE
    split at he
    ·rename_i l hl
     obtain rfl := Option.some.inj he
     have hti := htt T i hT
     have hei := htt el ie hE
     have hps := qdc hg hA hp hob
     have hz := qai.lits (X := X) (ρ := ρ) (fun v hv => (List.all_eq_true.1 hti.z1) v hv)
     obtain ⟨je, hje, _, hjs, _⟩ := hei.parts
     obtain ⟨cells', h1, h2⟩ := qiv (place := fun q => some (q * je.size, je.size)) (fun q off sz ag hq => by
      obtain ⟨rfl, rfl⟩ := qoc hq
      rw [hjs, Nat.zero_add]) hl hps hz
     obtain ⟨j, hj, hjz, _, _⟩ := hti.parts
     have hb : P.built T (ps.map fun p => (p.1, a.eval p.2)).toList = some cells' := by
      unfold Program.built
      have hu : P.underlying T = some (.array N el) := by rw [hti.und, hd]
      simp only [hj, hu, hjz, hje]
      simpa using h1
     refine Runs.pure (x := .agg cells') ?_ (qck hg ⟨cells', rfl, h2⟩) hM hW
     have := run_build (P := P) w T _ cells' hb
     simp [execOp, ho, this]
    ·cases he
   ·cases he
  ·rename_i fields hd
   split at he
   ·rename_i l hl
    obtain rfl := Option.some.inj he
    have hti := htt T i hT
    have hps := qdc hg hA hp hob
    have hfl := hti.flds fields hd
    have hz := qai.lits (X := X) (ρ := ρ) (fun v hv => (List.all_eq_true.1 hti.z1) v hv)
    obtain ⟨cells', h1, h2⟩ := qiv (place := fun q => (i.fs.map fun x => (x.1, x.2.1))[q]?) (fun q off sz ag hq => by rw [qmv] at hq; simp [hq]) hl hps hz
    obtain ⟨j, hj, hjz, _, _⟩ := hti.parts
    have hb : P.built T (ps.map fun p => (p.1, a.eval p.2)).toList = some cells' := by
     unfold Program.built
     have hu : P.underlying T = some (.struct fields) := by rw [hti.und, hd]
     simp only [hj, hu, hjz, qob hfl]
     simpa using h1
    refine Runs.pure (x := .agg cells') ?_ (qck hg ⟨cells', rfl, h2⟩) hM hW
    have := run_build (P := P) w T _ cells' hb
    simp [execOp, ho, this]
   ·cases he
  ·cases he
 ·cases he
theorem qhi {B : Nat -> List Nat} (hB : MRelB X ρ w m B) {k : Nat} {zc : List Value} (hk : zc.length = k) (h0 : 0 < k) (hz1 : ∀ v ∈ zc, v.oneCell' = true) :
  ∀ {N i : Nat} {ps : List (Nat × SV)} {vals : List (Nat × Value)} {ds : List D} {u : List Nat} {cells : Array Value}, elemsOf m k (dOf zc) N i ps = some (ds, u) -> qqw X ρ ps vals -> cells.size = (i + N) * k -> (∀ j, i * k <= j -> j < (i + N) * k -> cells.toList[j]? = zc[j % k]?) →
   ∃ cells' b, Instr.fill (fun q => some (q * k, k)) cells vals = some cells' /\ cells'.size = cells.size /\ cells'.toList.take (i * k) = cells.toList.take (i * k) /\ Own w (D.cat ds) (cells'.toList.drop (i * k)) b /\ b.Nodup /\ (∀ x ∈ b, ∃ r ∈ u, x ∈ B r) /\ ds.length = N /\ (∀ d ∈ ds, d.len = k) /\ (∀ d ∈ ds, ones d) /\ ∀ r ∈ u, ∃ bq, lk m r = some (some bq)
 | 0, i, [], [], ds, u, cells, h, _, hs, _ => by
  simp [elemsOf] at h; obtain ⟨rfl, rfl⟩ := h
  have hcl : cells.toList.length = cells.size := Array.length_toList
  refine ⟨cells, [], rfl, rfl, rfl, ⟨?_, rfl⟩, by simp, by simp, rfl, by simp, by simp, by simp⟩
  rw [Nat.add_zero] at hs
  rw [List.drop_of_length_le]; omega
 | 0, i, _ :: _, vals, ds, u, cells, h, _, _, _ => by simp [elemsOf] at h
 | 0, i, [], _ :: _, ds, u, cells, h, hr, _, _ => hr.elim
 | N + 1, i, ps, vals, ds, u, cells, h, hr, hs, hj => by
  have hcl : cells.toList.length = cells.size := Array.length_toList
  have e1 : (i + 1) * k = i * k + k := Nat.succ_mul i k
  have e2 : (i + 1 + N) * k = (i + (N + 1)) * k := by congr 1; omega
  have e3 : i * k + k <= (i + (N + 1)) * k := by rw [← e1]; exact Nat.mul_le_mul_right k (by omega)
  have zero : ∀ {ds' : List D} {u' : List Nat}, elemsOf m k (dOf zc) N (i + 1) ps = some (ds', u') -> ds = dOf zc :: ds' -> u = u' →
    ∃ cells' b, Instr.fill (fun q => some (q * k, k)) cells vals = some cells' /\ cells'.size = cells.size /\ cells'.toList.take (i * k) = cells.toList.take (i * k) /\ Own w (D.cat ds) (cells'.toList.drop (i * k)) b /\ b.Nodup /\ (∀ x ∈ b, ∃ r ∈ u, x ∈ B r) /\ ds.length = N + 1 /\ (∀ d ∈ ds, d.len = k) /\ (∀ d ∈ ds, ones d) /\ ∀ r ∈ u, ∃ bq, lk m r = some (some bq) := by
   rintro ds' u' h' rfl rfl
   obtain ⟨cells', b, g1, g2, g3, g4, g5, g6, g7, g8, g9, g10⟩ := qhi hB hk h0 hz1 h' hr (by rw [hs, e2]) (fun j h1 h2 => hj j (by omega) (by rw [← e2]; exact h2))
   have hcl' : cells'.toList.length = cells'.size := Array.length_toList
   have htk : (cells'.toList.take ((i + 1) * k)).drop (i * k) = zc := by
    rw [g3]
    apply List.ext_getElem?
    intro j
    rw [List.getElem?_drop, List.getElem?_take]
    by_cases hjk : j < k
    ·rw [if_pos (by omega), hj _ (by omega) (by omega), Nat.mul_add_mod_self_right, Nat.mod_eq_of_lt hjk]
    ·rw [if_neg (by omega), List.getElem?_eq_none (by omega)]
   have hdr : cells'.toList.drop (i * k) = zc ++ cells'.toList.drop ((i + 1) * k) := by
    conv => lhs; rw [← List.take_append_drop ((i + 1) * k) cells'.toList]
    rw [List.drop_append_of_le_length (by rw [List.length_take]; omega), htk]
   refine ⟨cells', b, g1, g2, ?_, ?_, g5, g6, by simp [g7], ?_, ?_, g10⟩
   ·have := congrArg (List.take (i * k)) g3
    rwa [List.take_take, List.take_take, Nat.min_eq_left (by omega)] at this
   ·rw [hdr]
    exact (qbu _ _).2 ⟨zc, _, [], b, rfl, rfl, ql1 w zc, g4⟩
   ·intro d hd
    rw [List.mem_cons] at hd
    rcases hd with rfl | hd
    ·rw [qh3, hk]
    ·exact g8 d hd
   ·intro d hd
    rw [List.mem_cons] at hd
    rcases hd with rfl | hd
    ·exact qji hz1
    ·exact g9 d hd
  match ps, vals, hr with
  | [], [], _ =>
   unfold elemsOf at h
   split at h
   ·rename_i ds' u' h'
    simp at h
    exact zero h' h.1.symm h.2.symm
   ·cases h
  | (i', s) :: l, (j', v) :: vs, hr2 =>
   unfold elemsOf at h
   split at h
   ·rename_i hii
    have : i = i' := by rw [← Nat.beq_eq]; exact hii
    subst this
    split at h
    ·rename_i d u1 ds' u2 hsz hd hrest
     split at h
     ·rename_i hdis
      simp at h
      obtain ⟨rfl, rfl⟩ := h
      obtain ⟨rfl, hsv, hr3⟩ := hr2
      have hdis' := qax hdis
      have hsl : s.cells.length = k := by rw [← qft, ← Nat.beq_eq]; exact hsz
      have hvl : v.cells.size = k := by rw [← Array.length_toList, ← hsv.cells.len, hsl]
      have hvl' : v.cells.toList.length = k := by rw [Array.length_toList, hvl]
      obtain ⟨bd, p1, p2, p3, p4, p5, p6⟩ := qh4 hB hd hsv.cells
      have hm := qoa v (i * k) cells (by omega)
      have hms := hm.2.2.1
      have hml := hm.2.2.2
      rw [hvl'] at hml
      obtain ⟨cells', b, g1, g2, g3, g4, g5, g6, g7, g8, g9, g10⟩ := qhi hB hk h0 hz1 hrest hr3 (cells := v.cells.zipIdx.foldl (fun cs (c, j) => cs.setIfInBounds (i * k + j) c) cells) (by rw [hms, hs, e2]) (fun j h1 h2 => by
       rw [hml, List.getElem?_append_right (by rw [List.length_take]; omega), List.length_take, Nat.min_eq_left (by omega), List.getElem?_append_right (by omega), hvl', List.getElem?_drop, show i * k + k + (j - i * k - k) = j by omega]
       exact hj j (by omega) (by rw [← e2]; exact h2))
      have hcl' : cells'.toList.length = cells'.size := Array.length_toList
      have htk : (cells'.toList.take ((i + 1) * k)).drop (i * k) = v.cells.toList := by
       rw [g3, hml, e1, ← List.append_assoc, List.take_append_of_le_length (by simp only [List.length_append, List.length_take]; omega), List.take_of_length_le (by simp only [List.length_append, List.length_take]; omega), List.drop_append_of_le_length (by rw [List.length_take]; omega), List.drop_of_length_le (by rw [List.length_take]; omega), List.nil_append]
      have hdr : cells'.toList.drop (i * k) = v.cells.toList ++ cells'.toList.drop ((i + 1) * k) := by
       conv => lhs; rw [← List.take_append_drop ((i + 1) * k) cells'.toList]
       rw [List.drop_append_of_le_length (by rw [List.length_take]; omega), htk]
      refine ⟨cells', bd ++ b, ?_, g2.trans hms, ?_, ?_, ?_, ?_, by simp [g7], ?_, ?_, ?_⟩
      ·unfold Instr.fill
       have hc3 : (v.cells.size ≠ k || i * k + v.cells.size > cells.size) = false := by simp; omega
       simp only [hc3]
       exact g1
      ·have := congrArg (List.take (i * k)) g3
       rw [List.take_take, List.take_take, Nat.min_eq_left (by omega), hml, List.take_append_of_le_length (by rw [List.length_take]; omega), List.take_take, Nat.min_self] at this
       exact this
      ·rw [hdr]
       exact (qbu _ _).2 ⟨_, _, bd, b, rfl, rfl, p1, g4⟩
      ·rw [List.nodup_append]
       refine ⟨p2, g5, fun x hx y hy e => ?_⟩
       subst e
       obtain ⟨r1, q1, q2⟩ := p3 x hx
       obtain ⟨r2, q3, q4⟩ := g6 x hy
       obtain ⟨b1, hb1⟩ := p6 r1 q1
       obtain ⟨b2, hb2⟩ := g10 r2 q3
       exact hB.dj r1 r2 _ _ (fun e => hdis' r1 q1 (e ▸ q3)) hb1 hb2 x q2 q4
      ·intro x hx
       rw [qan]
       rw [List.mem_append] at hx
       rcases hx with hx | hx
       ·obtain ⟨r, q1, q2⟩ := p3 x hx; exact ⟨r, by simp [q1], q2⟩
       ·obtain ⟨r, q1, q2⟩ := g6 x hx; exact ⟨r, by simp [q1], q2⟩
      ·intro d2 hd2
       rw [List.mem_cons] at hd2
       rcases hd2 with rfl | hd2
       ·rw [p4, hsl]
       ·exact g8 d2 hd2
      ·intro d2 hd2
       rw [List.mem_cons] at hd2
       rcases hd2 with rfl | hd2
       ·exact p5
       ·exact g9 d2 hd2
      ·intro r hr'
       rw [qan, List.mem_append] at hr'
       rcases hr' with hr' | hr'
       ·exact p6 r hr'
       ·exact g10 r hr'
     ·cases h
    ·cases h
   ·split at h
    ·rename_i ds' u' h'
     simp at h
     exact zero h' h.1.symm h.2.symm
    ·cases h
  | [], _ :: _, hr2 => exact hr2.elim
  | _ :: _, [], hr2 => exact hr2.elim
theorem qlb : ∀ {i : Nat} {ps : List (Nat × SV)} {vals : List (Nat × Value)} {ds : List D} {cells : Array Value}, qfr i ps = some ds -> qqw X ρ ps vals -> cells.size = i + ds.length →
  ∃ cells', Instr.fill (fun q => some (q * 1, 1)) cells vals = some cells' /\ cells'.size = cells.size /\ cells'.toList.take i = cells.toList.take i /\ RdO X.w0 X.F (D.cat ds) (cells'.toList.drop i) /\ ∀ d ∈ ds, d.len = 1
 | i, [], [], ds, cells, h, _, hs => by
  simp [qfr] at h; subst h
  have hcl : cells.toList.length = cells.size := Array.length_toList
  refine ⟨cells, rfl, rfl, rfl, ?_, by simp⟩
  show _ = []
  rw [List.drop_of_length_le]; simp at hs; omega
 | i, (i', .one (.ro T k n c)) :: l, (j', v) :: vals, ds, cells, h, hr, hs => by
  unfold qfr at h
  split at h
  ·rename_i ds' hii hrest
   obtain rfl := Option.some.inj h
   have : i = i' := by rw [← Nat.beq_eq]; exact hii
   subst this
   obtain ⟨rfl, hsv, hr3⟩ := hr
   simp only [List.length_cons] at hs
   have hcl : cells.toList.length = cells.size := Array.length_toList
   have hv1 : v.cells = #[v] := cells_one (CRel.one (show CRel X ρ (.ro T k n c) v from hsv))
   obtain ⟨cells', g1, g2, g3, g4, g5⟩ := qlb hrest hr3 (cells := cells.setIfInBounds i v) (by rw [Array.size_setIfInBounds]; omega)
   rw [Array.size_setIfInBounds] at g2
   have hcl' : cells'.toList.length = cells'.size := Array.length_toList
   refine ⟨cells', ?_, g2, ?_, ?_, ?_⟩
   ·unfold Instr.fill
    have hc3 : (v.cells.size ≠ 1 || i * 1 + v.cells.size > cells.size) = false := by rw [hv1]; simp; omega
    simp only [hc3]
    rw [hv1]
    simpa using g1
   ·have := congrArg (List.take i) g3
    rw [List.take_take, List.take_take, Nat.min_eq_left (by omega), Array.toList_setIfInBounds, List.take_set_of_le (by omega)] at this
    exact this
   ·have hat : cells'.toList[i]? = some v := by
     have := congrArg (fun l => l[i]?) g3
     simp only [List.getElem?_take, if_pos (show i < i + 1 by omega), Array.toList_setIfInBounds, List.getElem?_set_self (show i < cells.toList.length by omega)] at this
     exact this
    have hdr : cells'.toList.drop i = v :: cells'.toList.drop (i + 1) := by
     rw [List.drop_eq_getElem_cons (by omega)]
     congr 1
     rw [List.getElem?_eq_getElem (by omega)] at hat
     exact Option.some.inj hat
    rw [hdr]
    have hsv' : RdO X.w0 X.F (.row T k n c .nil) [v] := hsv
    obtain ⟨v', vs', e1, e2, h2⟩ := hsv'
    obtain ⟨rfl, rfl⟩ := List.cons.inj e1
    exact ⟨v, _, rfl, g4, h2⟩
   ·intro d hd
    rw [List.mem_cons] at hd
    rcases hd with rfl | hd
    ·rfl
    ·exact g5 d hd
  ·cases h
 | _, [], _ :: _, _, _, _, h, _ => h.elim
 | _, _ :: _, [], _, _, _, h, _ => h.elim
 | _, (_, .one (.lit _)) :: _, _ :: _, _, _, h, _, _ => by simp [qfr] at h
 | _, (_, .one (.hd _)) :: _, _ :: _, _, _, h, _, _ => by simp [qfr] at h
 | _, (_, .one (.box ..)) :: _, _ :: _, _, _, h, _, _ => by simp [qfr] at h
 | _, (_, .one (.el ..)) :: _, _ :: _, _, _, h, _, _ => by simp [qfr] at h
 | _, (_, .one (.roel ..)) :: _, _ :: _, _, _, h, _, _ => by simp [qfr] at h
 | _, (_, .one (.ifro ..)) :: _, _ :: _, _, _, h, _, _ => by simp [qfr] at h
 | _, (_, .one (.fn ..)) :: _, _ :: _, _, _, h, _, _ => by simp [qfr] at h
 | _, (_, .one (.part ..)) :: _, _ :: _, _, _, h, _, _ => by simp [qfr] at h
 | _, (_, .agg _) :: _, _ :: _, _, _, h, _, _ => by simp [qfr] at h
theorem qkk (htt : TTok P tt) {o : Oper} {T N s : Nat} {ps : Array (Nat × Operand)} (ho : o.op = .buildSlice T N ps) {e : Eff} (he : qe3 tt t m s g T N ps.toList = some e) (hob : All e.ob) (hs : ρ s = none) (hg : GT g) (hA : ARel X ρ n t a) (hM : MRel X ρ w m) (hW : WRel X w) :
  Runs P X ρ w m e.al (execOp a.eval o) e.v e.wr := by
 unfold qe3 at he
 split at he
 ·rename_i i vs o1 hT hp
  split at he
  ·rename_i el hd
   split at he
   ·rename_i ie hE
    split at he
    ·rename_i ds u hes
     obtain rfl := Option.some.inj he
     rw [qx] at hob
     obtain ⟨ho1, hN, hsz, _⟩ := hob
     have hti := htt T i hT
     have hie := htt el ie hE
     obtain ⟨j, hj, hjz, hjs, hjb⟩ := hie.parts
     obtain ⟨B, hB⟩ := hM
     have hps := qdc hg hA hp ho1
     have hzl : ie.z.cells.toList.length = ie.size := by rw [Array.length_toList]; exact hie.zs
     have hzc : ∀ j, 0 * ie.size <= j -> j < (0 + N) * ie.size -> (madeCells ie.z.cells (N * ie.size)).toList[j]? = ie.z.cells.toList[j % ie.size]? := fun j _ h2 => by
      have := qo6 (zc := ie.z.cells.toList) (m := N * ie.size) (j := j) (by rw [Nat.zero_add] at h2; exact h2) (by rw [hzl]; exact hsz)
      rw [hzl] at this; simpa using this
     obtain ⟨cells', b, g1, g2, g3, g4, g5, g6, g7, g8, g9, g10⟩ := qhi hB hzl hsz (fun v hv => (List.all_eq_true.1 hie.z1) v hv) hes hps (cells := madeCells ie.z.cells (N * ie.size)) (by rw [size_madeCells, Nat.zero_add]) hzc
     rw [Nat.zero_mul, List.drop_zero] at g4
     rw [size_madeCells] at g2
     have hcl : cells'.toList.length = cells'.size := Array.length_toList
     have hNm : N <= N * ie.size := Nat.le_mul_of_pos_right N hsz
     have hsmall : N <= maxLen := by unfold maxLen; omega
     have hrow : Own (w.alloc (.cells cells' el)) (rowC el ie.size ds) [.slice (some ⟨w.heap.size, 0, none⟩) N N] (w.heap.size :: b) := by
      refine ⟨_, [], w.heap.size :: b, [], rfl, by simp, ⟨rfl, rfl⟩, Or.inr ⟨w.heap.size, 0, N, cells', b, by rw [g7], rfl, heap_alloc_new _ _, by rw [g7]; exact Nat.le_refl _, hsmall, by omega, ?_⟩⟩
      rw [List.drop_zero, g7, List.take_of_length_le (by omega)]
      exact qke g4 _
     have hbl : ∀ x ∈ b, x < w.heap.size := qir _ g4
     refine qdi hB (v := .slice (some ⟨w.heap.size, 0, none⟩) N N) (w' := w.alloc (.cells cells' el)) ?_ hs hrow g8 g9 ?_ g10 ?_ (fun x h _ => Below.heap_alloc _ _ _ h) rfl rfl rfl (by simp) hW
     ·have hu : (underlying T).run P w = .ok (.slice el) w := by rw [run_underlying hti.und w, hd]
      have hz' : (zeroValue el).run P w = .ok ie.z w := by simp [zeroValue, typeInfo, hj, hjz]
      have hnot : ¬ (16777216 < N * ie.size) := by omega
      by_cases hn0 : N * ie.size = 0
      ·have hN0 : N = 0 := by rcases Nat.mul_eq_zero.1 hn0 with h | h; exact h; omega
       subst hN0
       have hc0 : cells' = #[] := by rw [← Array.size_eq_zero_iff, g2]; simp
       have hm0 : madeCells ie.z.cells (0 * ie.size) = #[] := by rw [← Array.size_eq_zero_iff, size_madeCells]; simp
       rw [hm0] at g1
       have hr0 : (Array.map (fun x => (default : Value)) (Array.range 0)) = #[] := by simp
       have g3' : Instr.fill (fun i => some (i * ie.size, ie.size)) #[] (List.map (fun x => (x.fst, a.eval x.snd)) ps.toList) = some #[] := by rw [hc0] at g1; exact g1
       simp [execOp, ho, Instr.buildSlice, hu, jm hie.size, newRow, hc0]
       rw [hr0, g3']
       rfl
      ·have g1' := g1
       unfold madeCells at g1'
       simp [execOp, ho, Instr.buildSlice, hu, jm hie.size, hnot, hn0, hz', newRow, g1']
     ·rw [List.nodup_cons]
      exact ⟨fun h => by have := hbl _ h; omega, g5⟩
     ·intro x hx
      rw [List.mem_cons] at hx
      rcases hx with rfl | hx
      ·exact .inr (Nat.le_refl _)
      ·exact .inl (g6 x hx)
    ·split at he
     ·rename_i ds hk1 hes
      split at he
      ·rename_i hln
       obtain rfl := Option.some.inj he
       rw [qx] at hob
       obtain ⟨ho1, hN, _⟩ := hob
       have hsz1 : ie.size = 1 := by rw [← Nat.beq_eq]; exact hk1
       have hdl : ds.length = N := by rw [← qft, ← Nat.beq_eq]; exact hln
       have hti := htt T i hT
       have hie := htt el ie hE
       obtain ⟨j, hj, hjz, hjs, hjb⟩ := hie.parts
       obtain ⟨B, hB⟩ := hM
       have hps := qdc hg hA hp ho1
       obtain ⟨cells', g1, g2, g3, g4, g5⟩ := qlb hes hps (cells := madeCells ie.z.cells (N * ie.size)) (by rw [size_madeCells, hsz1, hdl]; omega)
       rw [List.drop_zero] at g4
       rw [size_madeCells] at g2
       have hzs : ie.z.cells.size = ie.size := hie.zs
       have hx := qfj (x := Value.slice (some ⟨w.heap.size, 0, none⟩) ds.length ds.length) hs
       refine ⟨.value (.slice (some ⟨w.heap.size, 0, none⟩) ds.length ds.length), w.alloc (.cells cells' el), putE ρ s (.slice (some ⟨w.heap.size, 0, none⟩) ds.length ds.length), ?_, ⟨qdh _ _ _, rfl⟩, hx, qea, ?_, ?_⟩
       ·have hu : (underlying T).run P w = .ok (.slice el) w := by rw [run_underlying hti.und w, hd]
        have hz' : (zeroValue el).run P w = .ok ie.z w := by simp [zeroValue, typeInfo, hj, hjz]
        rw [hdl]
        have hnot : ¬ (16777216 < N * ie.size) := by rw [hsz1]; omega
        have g1' : Instr.fill (fun q => some (q * ie.size, ie.size)) (madeCells ie.z.cells (N * ie.size)) (List.map (fun x => (x.fst, a.eval x.snd)) ps.toList) = some cells' := by rw [hsz1] at g1 ⊢; exact g1
        by_cases hn0 : N * ie.size = 0
        ·have hN0 : N = 0 := by rw [hsz1] at hn0; omega
         subst hN0
         have hc0 : cells' = #[] := by rw [← Array.size_eq_zero_iff, g2]; simp
         have hm0 : madeCells ie.z.cells (0 * ie.size) = #[] := by rw [← Array.size_eq_zero_iff, size_madeCells]; simp
         rw [hm0] at g1'
         have hr0 : (Array.map (fun x => (default : Value)) (Array.range 0)) = #[] := by simp
         have g3' : Instr.fill (fun i => some (i * ie.size, ie.size)) #[] (List.map (fun x => (x.fst, a.eval x.snd)) ps.toList) = some #[] := by rw [hc0] at g1'; exact g1'
         simp [execOp, ho, Instr.buildSlice, hu, jm hie.size, newRow, hc0]
         rw [hr0, g3']
         rfl
        ·unfold madeCells at g1'
         simp [execOp, ho, Instr.buildSlice, hu, jm hie.size, hnot, hn0, hz', newRow, g1']
       ·have hsrc : ∀ x ∈ [w.heap.size], (∃ q ∈ ([] : List Nat), x ∈ B q) ∨ w.heap.size <= x := by
         intro x hx
         obtain rfl : x = w.heap.size := by simpa using hx
         exact .inr (Nat.le_refl _)
        exact ⟨_, hB.upd hx s (.rro el 1 ds) [w.heap.size] [] (by simp) ⟨w.heap.size, cells', qdh _ _ _, heap_alloc_new _ _, rfl, by unfold maxLen; omega, by rw [g2, hsz1, hdl], g5, g4⟩ (by simp) hsrc hW.lt (fun x h _ => Below.heap_alloc _ _ _ h) (fun q' bq h => qfi (u := []) h)⟩
       ·exact hW.upd rfl rfl rfl (by simp) (fun b hb => Below.heap_alloc _ _ _ (hW.lt b hb))
      ·cases he
     ·cases he
   ·cases he
  ·cases he
 ·cases he
end
theorem qhj {w : World} {l1 l2 : List D} {u1 u2 : List Value} {b1 b2 : List Nat} (h1 : Own w (D.cat l1) u1 b1) (h2 : Own w (D.cat l2) u2 b2) : Own w (D.cat (l1 ++ l2)) (u1 ++ u2) (b1 ++ b2) := by
 rw [D.cat_append]
 exact (qbu _ _).2 ⟨u1, u2, b1, b2, rfl, rfl, h1, h2⟩
theorem qjk {w : World} : ∀ {d : D} {us : List Value} {b : List Nat}, ones d -> Own w d us b -> ∀ u ∈ us, u.oneCell' = true
 | .nil, us, b, _, ho, u, hu => by obtain ⟨rfl, _⟩ := ho; cases hu
 | .lit v r, us, b, h, ho, u, hu => by
  obtain ⟨vs, rfl, ho⟩ := ho
  rw [List.mem_cons] at hu
  rcases hu with rfl | hu
  ·exact h.1
  ·exact qjk h.2 ho u hu
 | .row T k n c r, us, b, h, ho, u, hu => by
  obtain ⟨v, vs, b1, b2, rfl, rfl, ho, e⟩ := ho
  rw [List.mem_cons] at hu
  rcases hu with rfl | hu
  ·rcases e with ⟨⟨a0, rfl⟩, _⟩ | ⟨g, o, cap, cur, b, rfl, _⟩ <;> rfl
  ·exact qjk h.2 ho u hu
theorem qqy {w : World} {F : Nat -> Prop} : ∀ {d : D} {us : List Value}, d.flat -> RdO w F d us -> (∀ u ∈ us, u.oneCell' = true) /\ ∀ w', Own w' d us []
 | .nil, us, _, h => by
  have h' : us = [] := h
  subst h'
  exact ⟨by simp, fun _ => ⟨rfl, rfl⟩⟩
 | .lit v r, us, hf, h => by
  obtain ⟨vs, rfl, h⟩ := h
  obtain ⟨h1, h2⟩ := qqy hf.2 h
  refine ⟨fun u hu => ?_, fun w' => ⟨vs, rfl, h2 w'⟩⟩
  rw [List.mem_cons] at hu
  rcases hu with rfl | hu
  ·exact hf.1
  ·exact h1 u hu
 | .row .., _, hf, _ => hf.elim
theorem qod {w : World} {F : Nat -> Prop} {T k cap : Nat} {A : Option Addr} {l : List D} (hl : ∀ d ∈ l, d.flat) (h : RdO w F (.row T k l.length (D.cat l) .nil) [.slice A l.length cap]) :
  ∃ us, Own w (D.cat l) us [] /\ (∀ u ∈ us, u.oneCell' = true) /\ ((A = none /\ l.length = 0) ∨ ∃ ad, A = some ad /\ ∀ j u, us[j]? = some u -> w.cell? (ad.add j) = some u) := by
 obtain ⟨v', vs', e1, _, h2⟩ := h
 obtain ⟨rfl, _⟩ := List.cons.inj e1
 rcases h2 with ⟨⟨a0, c0, e2, _⟩, h3, h4⟩ | ⟨g, o, c, us, e2, _, _, hul, hcell, _, hcat⟩
 ·refine ⟨[], by rw [h4]; exact ⟨rfl, rfl⟩, by simp, ?_⟩
  cases A with
  | none => exact .inl ⟨rfl, h3⟩
  | some ad => exact .inr ⟨ad, rfl, by simp⟩
 ·obtain ⟨h1, h2⟩ := qqy (qeo hl) hcat
  rw [Value.slice.injEq] at e2
  refine ⟨us, h2 w, h1, .inr ⟨_, e2.1, fun j u hu => ?_⟩⟩
  rw [qey, hcell j (by rw [← hul]; exact (List.getElem?_eq_some_iff.1 hu).1)]
  exact hu
theorem qkl : ∀ {d : D}, d.flat -> ones d
 | .nil, _ => trivial
 | .lit _ _, h => ⟨h.1, qkl h.2⟩
section
variable {P : Program} {X : Cx} {ρ : Env} {w : World} {m : ML} {tt : TT} {t : TL} {n : Nat} {a : Act} {g : Option Bool}
theorem qlv {T e ty : Nat} {it ie : TI} (hT : TIok P T it) (hE : TIok P e ie) (hd : it.desc = .slice e) {A B : Option Addr} {n cp cap : Nat} (h : n <= cp) : (Builtin.append_ #[T, T] ty #[.slice B n cp, .slice A 0 cap]).run P w = .ok (.slice B n cp) w := by
 have hu : P.underlying T = some (.slice e) := by rw [hT.und, hd]
 have hu' := run_underlying hu w
 have hsz := jm hE.size w
 cases A <;> cases B <;> simp [Builtin.append_, hu', hsz, Builtin.lenOf, h, Builtin.firstCells, loadCells, loadCellsFrom, storeCells]
theorem qhk {T e ty : Nat} {it ie : TI} (hT : TIok P T it) (hE : TIok P e ie) (hd : it.desc = .slice e) (hby : ie.bytes <= 1000) (hsz : 0 < ie.size) {l1 l2 : List D} {s x : Value} {b1 : List Nat}
  (hs : Own w (rowC e ie.size l1) [s] b1) (hl1 : ∀ d ∈ l1, d.len = ie.size) (hn1 : b1.Nodup)
  {us2 : List Value} {c2 : List Nat} {A : Option Addr} {cap : Nat} (hx : x = .slice A l2.length cap) (hc2 : Own w (D.cat l2) us2 c2) (hl2 : ∀ d ∈ l2, d.len = ie.size) (h1 : ∀ u ∈ us2, u.oneCell' = true) (hn2 : c2.Nodup) (hdis : ∀ y ∈ b1, y ∉ c2)
  (hcell : (A = none /\ l2.length = 0) ∨ ∃ ad, A = some ad /\ ∀ j u, us2[j]? = some u -> w.cell? (ad.add j) = some u) (hlen : l1.length + l2.length <= 2097152) :
  ∃ v w' bs, (Builtin.append_ #[T, T] ty #[s, x]).run P w = .ok v w' /\ Own w' (rowC e ie.size (l1 ++ l2)) [v] bs /\ bs.Nodup /\ (∀ y ∈ bs, y ∈ b1 ∨ y ∈ c2 ∨ w.heap.size <= y) /\ (∀ y, y < w.heap.size -> y ∉ b1 -> w'.heap[y]? = w.heap[y]?) /\ w'.os = w.os /\ w'.tape = w.tape /\ w'.output = w.output /\ w.heap.size <= w'.heap.size := by
 have hu : P.underlying T = some (.slice e) := by rw [hT.und, hd]
 obtain ⟨i, hi, hz, his, hib⟩ := hE.parts
 have hul2 : us2.length = l2.length * ie.size := (qdg _ hc2).trans (D.len_cat _ l2 hl2)
 have hbytes : (l1.length + l2.length) * ie.bytes <= 140737488355328 := Nat.le_trans (Nat.mul_le_mul hlen hby) (by omega)
 have hmax : l1.length + l2.length <= maxLen := by unfold maxLen; omega
 have hl12 : ∀ d ∈ l1 ++ l2, d.len = ie.size := by
  intro d hd
  rw [List.mem_append] at hd
  exact hd.elim (hl1 d) (hl2 d)
 subst hx
 have hs0 := hs
 by_cases hm : l2.length = 0
 ·have hl0 : l2 = [] := List.length_eq_zero_iff.1 hm
  subst hl0
  obtain ⟨A1, cp, rfl⟩ := qfh hs
  have hle : l1.length <= cp := by
   obtain ⟨v', vs', q1, q2, e1, e2, ⟨rfl, rfl⟩, h2⟩ := hs
   obtain ⟨e1, _⟩ := List.cons.inj e1
   rcases h2 with ⟨⟨a0, e3⟩, h3, _⟩ | ⟨g, o, c, cur, b, e3, _, _, h3, _⟩
   ·omega
   ·rw [e3, Value.slice.injEq] at e1; omega
  refine ⟨_, w, b1, qlv hT hE hd hle, by simpa using hs0, hn1, fun y hy => .inl hy, fun _ _ _ => rfl, rfl, rfl, rfl, Nat.le_refl _⟩
 ·obtain ⟨ad, rfl, hcl2⟩ : ∃ ad, A = some ad /\ ∀ j u, us2[j]? = some u -> w.cell? (ad.add j) = some u := by
   rcases hcell with ⟨_, h⟩ | h
   ·exact absurd h hm
   ·exact h
  have grown : ∀ {v w'} {us1 : List Value} {d1 : List Nat}, Own w (D.cat l1) us1 d1 -> d1.Nodup -> (∀ y ∈ d1, y ∈ b1) -> w'.ownsRow w.heap.size e ie.size v (l1.length + l2.length) (us1 ++ us2) -> w.grownBy w' none -> (Builtin.append_ #[T, T] ty #[s, .slice (some ad) l2.length cap]).run P w = .ok v w' →
    ∃ v w' bs, (Builtin.append_ #[T, T] ty #[s, .slice (some ad) l2.length cap]).run P w = .ok v w' /\ Own w' (rowC e ie.size (l1 ++ l2)) [v] bs /\ bs.Nodup /\ (∀ y ∈ bs, y ∈ b1 ∨ y ∈ c2 ∨ w.heap.size <= y) /\ (∀ y, y < w.heap.size -> y ∉ b1 -> w'.heap[y]? = w.heap[y]?) /\ w'.os = w.os /\ w'.tape = w.tape /\ w'.output = w.output /\ w.heap.size <= w'.heap.size := by
   intro v w' us1 d1 hc1 hnd1 hsub hrow hgr hrun
   have hboth := qhj hc1 hc2
   have hlt := qir _ hboth
   have hnow : Own w' (D.cat (l1 ++ l2)) (us1 ++ us2) (d1 ++ c2) := qbo _ hboth (fun y hy => hgr.block y (hlt y hy) (by simp))
   obtain ⟨bs, k1, k2, k3⟩ := qsq hrow (by rw [List.length_append]) hl12 hnow
   refine ⟨v, w', _, hrun, k1, ?_, ?_, fun y hy _ => hgr.block y hy (by simp), hgr.os, hgr.tape, hgr.output, hgr.size⟩
   ·rw [List.nodup_append, List.nodup_append]
    refine ⟨k2, ⟨hnd1, hn2, fun p hp q hq e => hdis p (hsub p hp) (e ▸ hq)⟩, fun p hp q hq e => ?_⟩
    subst e
    have := (k3 p hp).1
    have := hlt p hq
    omega
   ·intro y hy
    simp only [List.mem_append] at hy
    rcases hy with hy | hy | hy
    ·exact .inr (.inr (k3 y hy).1)
    ·exact .inl (hsub y hy)
    ·exact .inr (.inl hy)
  obtain ⟨v', vs', q1, q2, e1, e2, ⟨rfl, rfl⟩, h2⟩ := hs
  obtain ⟨rfl, _⟩ := List.cons.inj e1
  rw [List.append_nil] at e2
  subst e2
  rcases h2 with ⟨⟨a0, rfl⟩, h3, h4, rfl⟩ | ⟨g, o, c, cur, b, rfl, rfl, hcur, hnc, hmc, hsc, hown⟩
  ·have hl0 : l1 = [] := List.length_eq_zero_iff.1 h3
   subst hl0
   cases a0 with
   | none =>
    obtain ⟨v, w', hr, hrow, hgr, _⟩ := run_append_own (P := P) w w.heap.size T ty e i ie.z ie.size ie.bytes hu hi hz his hib hE.zs hsz (.slice none 0 0) 0 [] ⟨by simp, .inl ⟨rfl, rfl⟩⟩ ad l2.length cap us2 hul2 hcl2 h1 (by simpa using hmax) (by simpa using hbytes) (Nat.le_refl _)
    exact grown (us1 := []) (d1 := []) ⟨rfl, rfl⟩ (by simp) (by simp) (by simpa using hrow) hgr hr
   | some a1 =>
    obtain ⟨v, w', hr, hrow, hgr⟩ := run_append_arg_grows (P := P) w T ty e i ie.z ie.size ie.bytes hu hi hz his hib hE.zs hsz a1 0 0 [] (by simp) (by simp) ad l2.length cap us2 hul2 hcl2 (by omega) (by simpa using hmax) (by simpa using hbytes)
    exact grown (us1 := []) (d1 := []) ⟨rfl, rfl⟩ (by simp) (by simp) (by simpa using hrow) hgr hr
  ·have hcl : cur.toList.length = cur.size := Array.length_toList
   have hle : l1.length * ie.size <= c * ie.size := Nat.mul_le_mul_right _ hnc
   have hul1 : ((cur.toList.drop o).take (l1.length * ie.size)).length = l1.length * ie.size := by rw [List.length_take, List.length_drop]; omega
   rw [List.nodup_cons] at hn1
   by_cases hroom : l1.length + l2.length <= c
   ·have hle2 : (l1.length + l2.length) * ie.size <= c * ie.size := Nat.mul_le_mul_right _ hroom
    rw [Nat.add_mul] at hle2
    have hr := run_append_room_cells (P := P) w T ty e i hu hi g o l1.length c ad l2.length cap us2 (by rw [his]; exact hul2) hcl2 h1 hroom (fun j hj => by rw [his, cell_of_block hcur]; simp; omega) (fun j hj => qii hcur _)
    rw [his] at hr
    obtain ⟨cur', k1, k2, k3, k4, k5⟩ := qh2 us2 (o + l1.length * ie.size) w cur hcur (by omega)
    obtain ⟨p1, p2, p3, p4⟩ := qfu g us2 (o + l1.length * ie.size) w
    have hgc : g ∉ c2 := hdis g (by simp)
    have hfar : ∀ y, y ≠ g -> (w.setCells g (o + l1.length * ie.size) us2).heap[y]? = w.heap[y]? := fun y hy => qf8 _ _ _ _ hy
    have hnow : Own (w.setCells g (o + l1.length * ie.size) us2) (D.cat (l1 ++ l2)) ((cur.toList.drop o).take (l1.length * ie.size) ++ us2) (b ++ c2) := qbo _ (qhj hown hc2) (fun y hy => hfar y (fun e => by
     subst e
     rw [List.mem_append] at hy
     rcases hy with hy | hy
     ·exact hn1.1 hy
     ·exact hgc hy))
    refine ⟨_, _, g :: (b ++ c2), hr, ⟨_, [], g :: (b ++ c2), [], rfl, by simp, ⟨rfl, rfl⟩, Or.inr ⟨g, o, c, cur', b ++ c2, by rw [List.length_append], rfl, k1, by rw [List.length_append]; exact hroom, hmc, by omega, ?_⟩⟩, ?_, ?_, fun y _ hy => hfar y (fun e => hy (by simp [e])), p1, p2, p3, Nat.le_of_eq p4.symm⟩
    ·have e5 : (cur'.toList.drop o).take ((l1 ++ l2).length * ie.size) = (cur.toList.drop o).take (l1.length * ie.size) ++ us2 := by
      rw [k5, List.length_append, Nat.add_mul, ← hul2, ← List.append_assoc, List.drop_append_of_le_length (by simp only [List.length_append, List.length_take]; omega), List.drop_append_of_le_length (by rw [List.length_take]; omega), List.drop_take, Nat.add_sub_cancel_left, List.take_append_of_le_length (by simp only [List.length_append, List.length_take, List.length_drop]; omega), List.take_of_length_le (by simp only [List.length_append, List.length_take, List.length_drop]; omega)]
     rw [e5]; exact hnow
    ·rw [List.nodup_cons, List.nodup_append]
     refine ⟨?_, hn1.2, hn2, fun p hp q hq e => hdis p (by simp [hp]) (e ▸ hq)⟩
     rw [List.mem_append]
     rintro (h | h)
     ·exact hn1.1 h
     ·exact hgc h
    ·intro y hy
     simp only [List.mem_cons, List.mem_append] at hy ⊢
     rcases hy with hy | hy | hy
     ·exact .inl (.inl hy)
     ·exact .inl (.inr hy)
     ·exact .inr (.inl hy)
   ·obtain ⟨v, w', hr, hrow, hgr⟩ := run_append_arg_grows (P := P) w T ty e i ie.z ie.size ie.bytes hu hi hz his hib hE.zs hsz ⟨g, o, none⟩ l1.length c _ hul1 (fun j u hu => by
     rw [qey, cell_of_block hcur]
     rw [List.getElem?_take] at hu
     split at hu
     ·rw [List.getElem?_drop] at hu; simpa using hu
     ·cases hu) ad l2.length cap us2 hul2 hcl2 (by omega) hmax hbytes
    exact grown hown hn1.2 (fun y hy => by simp [hy]) hrow hgr hr
theorem qdo {B : Nat -> List Nat} (hB : MRelB X ρ w m B) {e k : Nat} {v : SV} {r1 : List Nat} {l1 : List D} {x : Value} (h : rowOf m e k v = some (r1, l1)) (hv : SRel X ρ v x) :
  ∃ b1, Own w (rowC e k l1) [x] b1 /\ (∀ d ∈ l1, d.len = k) /\ (∀ d ∈ l1, ones d) /\ b1.Nodup /\ (∀ r ∈ r1, ∃ b, lk m r = some (some b)) /\ ∀ y ∈ b1, ∃ r ∈ r1, y ∈ B r := by
 unfold rowOf at h
 split at h
 ·simp at h; obtain ⟨rfl, rfl⟩ := h
  obtain ⟨rfl, _⟩ := hv
  exact ⟨[], ⟨_, [], [], [], rfl, rfl, ⟨rfl, rfl⟩, .inl ⟨⟨none, rfl⟩, rfl, rfl, rfl⟩⟩, by simp, by simp, by simp, by simp, by simp⟩
 ·rename_i r
  split at h
  ·rename_i T k' l hr
   split at h
   ·rename_i hT hk
    simp at h; obtain ⟨rfl, rfl⟩ := h
    have : T = e := by rw [← Nat.beq_eq]; exact hT
    subst this
    have : k' = k := by rw [← Nat.beq_eq]; exact hk
    subst this
    obtain ⟨y, h1, h2, h3, h4⟩ := hB.blk r _ hr
    rw [hv.1] at h1
    obtain rfl := Option.some.inj h1
    exact ⟨B r, h2, h3, h4, hB.nd r _ hr, fun q hq => by obtain rfl := List.mem_singleton.1 hq; exact ⟨_, hr⟩, fun y hy => ⟨r, by simp, hy⟩⟩
   ·cases h
  ·cases h
 ·cases h
theorem qdw {w w' : World} : ∀ {d : D} {us : List Value} {b : List Nat}, d.flat -> Own w d us b -> b = []
 | .nil, us, b, _, h => h.2
 | .lit v r, us, b, hf, h => by obtain ⟨vs, rfl, h⟩ := h; exact qdw (w' := w') hf.2 h
 | .row .., _, _, hf, _ => hf.elim
theorem qs1 (htt : TTok P tt) {o : Oper} {T : Nat} {x y : Operand} {inp : Inp} (ho : ∃ (c : Call) (Ts : List Nat), o.op = .call c /\ c.callee = .builtin .copy /\ c.args.toList = [x, y] /\ c.argTypes.toList = T :: Ts) {e : Eff} (he : qpj tt t m inp T x y = some e) (hob : All e.ob) (hA : ARel X ρ n t a) (hM : MRel X ρ w m) (hW : WRel X w) :
  Runs P X ρ w m e.al (execOp a.eval o) e.v e.wr := by
 have hg0 : GT none := fun _ h => by cases h
 obtain ⟨⟨cal, args, argTypes⟩, Ts, ho, rfl, ha, hat⟩ := ho
 have ha' : args = #[x, y] := by rw [← Array.toList_inj]; exact ha
 have hat' : argTypes = (T :: Ts).toArray := by rw [← Array.toList_inj]; exact hat
 subst ha' hat'
 unfold qpj at he
 split at he
 ·rename_i i r o1 T' k n' c o2 l hT hx hy
  split at he
  ·rename_i el T'' k' l1 hd hr
   split at he
   ·rename_i ie hE
    split at he
    ·rename_i hk hk'
     obtain rfl := Option.some.inj he
     have : k = ie.size := by rw [← Nat.beq_eq]; exact hk
     subst this
     have : k' = ie.size := by rw [← Nat.beq_eq]; exact hk'
     subst this
     have hti := htt T i hT
     have hie := htt el ie hE
     rw [qx, qx] at hob
     obtain ⟨hox, hoy, rfl, rfl, hl, hll, hl1, _⟩ := hob
     obtain ⟨B, hB⟩ := hM
     obtain ⟨hρx, _⟩ := qw hx hox hg0 hA
     have hown2 : RdO X.w0 X.F (.row T' ie.size l.length (D.cat l) .nil) [a.eval y] := qw hy hoy hg0 hA
     have hnow := qkh hW hown2
     obtain ⟨A, cap, hey⟩ := qgq hown2
     rw [hey] at hnow
     obtain ⟨us, hus1, hus2, hus3⟩ := qod (fun d hd => (hl d hd).2) hnow
     have huslen : us.length = l.length * ie.size := by
      rw [qdg _ hus1, D.len_cat ie.size l (fun d hd => (hl d hd).1)]
     have hu : (underlying T).run P w = .ok (.slice el) w := by rw [run_underlying hti.und w, hd]
     have hcells : (Builtin.firstCells ie.size l.length (.slice A l.length cap)).run P w = .ok us.toArray w := by
      rcases hus3 with ⟨rfl, h0⟩ | ⟨ad, rfl, hc⟩
      ·have : us = [] := by rw [← List.length_eq_zero_iff, huslen, h0, Nat.zero_mul]
       subst this
       exact run_firstCells_none w ie.size l.length l.length cap
      ·exact run_firstCells_some w ie.size l.length ad l.length cap us huslen hc
     obtain ⟨z, h1, hown, hlen, hon⟩ := hB.blk r _ hr
     rw [hρx] at h1
     obtain rfl := Option.some.inj h1
     have hmin : Nat.min l.length l.length = l.length := Nat.min_self _
     obtain ⟨v', vs', b1, b2, e1, e2, hnil, hrow⟩ := hown
     obtain ⟨e3, rfl⟩ := List.cons.inj e1
     obtain ⟨_, rfl⟩ := hnil
     rw [List.append_nil] at e2
     rcases hrow with ⟨⟨a0, e4⟩, h0, _, hb1⟩ | ⟨g0, o0, cap0, cur, b, e4, hb1, hcur, hc1, hc2, hfit, hcat⟩
     ·
      have hl0 : l = [] := List.length_eq_zero_iff.1 (hll ▸ h0)
      subst hl0
      have hl10 : l1 = [] := List.length_eq_zero_iff.1 h0
      subst hl10
      have hus0 : us = [] := by rw [← List.length_eq_zero_iff, huslen]; simp
      subst hus0
      have hrun : (execOp a.eval o).run P w = .ok (.value (.int .i64 0)) w := by
       simp only [List.length_nil] at hcells hey
       cases a0 <;> simp [execOp, ho, resolve, invoke, builtin, Builtin.copy_, e3, e4, hey, hu, Builtin.lenOf, jm hie.size, hcells, storeCells, goInt]
      refine ⟨_, w, ρ, hrun, ⟨rfl, rfl⟩, Ext.refl ρ, fun _ _ h => .inl h, ?_, hW⟩
      refine ⟨_, hB.upd (Ext.refl ρ) r (.row T'' ie.size []) [] [r] (fun q hq => by obtain rfl := List.mem_singleton.1 hq; exact ⟨_, hr⟩) ⟨_, hρx, ⟨_, [], [], [], by rw [e3], rfl, ⟨rfl, rfl⟩, .inl ⟨⟨a0, e4⟩, rfl, rfl, rfl⟩⟩, by simp, by simp⟩ (by simp) (fun z hz => by cases hz) hW.lt (fun z _ _ => rfl) (fun q bq h => ?_)⟩
      rcases qfi (u := []) h with h | ⟨h, _, h'⟩
      ·exact .inl h
      ·exact .inr ⟨h, by simpa using h, h'⟩
     ·have hfl : b = [] := qdw (w' := w) (qeo hl1) hcat
      subst hfl
      have hle : l.length * ie.size <= cap0 * ie.size := Nat.mul_le_mul_right _ (by rw [← hll]; exact hc1)
      have hfit2 : o0 + 0 + us.length <= cur.size := by omega
      have hst := run_storeCells_at (P := P) g0 o0 T'' us 0 cur w hcur hfit2 hus2
      rw [Nat.add_zero] at hst
      have hrun : (execOp a.eval o).run P w = .ok (.value (.int .i64 l.length)) (w.setRow g0 (cur.toList.take o0 ++ us ++ cur.toList.drop (o0 + us.length)).toArray) := by
       simp [execOp, ho, resolve, invoke, builtin, Builtin.copy_, e3, e4, hey, hu, Builtin.lenOf, jm hie.size, hll, hcells, hst, goInt]
      have hgB : g0 ∈ B r := by rw [e2, hb1]; simp
      have hgF : ¬ X.G g0 := hB.nf r _ hr g0 hgB
      have hnew := setRow_heap w g0 cur (cur.toList.take o0 ++ us ++ cur.toList.drop (o0 + us.length)).toArray T'' (0, 0) hcur
      have hcl : cur.toList.length = cur.size := Array.length_toList
      have htk : (cur.toList.take o0).length = o0 := by rw [List.length_take]; omega
      refine ⟨_, _, ρ, hrun, ⟨rfl, rfl⟩, Ext.refl ρ, fun _ _ h => .inl h, ?_, hW.upd rfl rfl rfl (by rw [size_setRow]; exact Nat.le_refl _) (fun b hb => setRow_other _ _ _ _ (fun e => hgF (e ▸ hb)))⟩
      refine ⟨_, hB.upd (Ext.refl ρ) r (.row T'' ie.size l) [g0] [r] (fun q hq => by obtain rfl := List.mem_singleton.1 hq; exact ⟨_, hr⟩) ⟨_, hρx, ⟨_, [], [g0], [], by rw [e3], rfl, ⟨rfl, rfl⟩, .inr ⟨g0, o0, cap0, _, [], by rw [e4, hll], rfl, hnew, by rw [← hll]; exact hc1, hc2, ?_, ?_⟩⟩, fun d hd => (hl d hd).1, fun d hd => qkl (hl d hd).2⟩ (by simp) (fun z hz => .inl ⟨r, by simp, by rw [e2, hb1]; exact hz⟩) hW.lt (fun z _ hz => setRow_other _ _ _ _ (fun e => hz r (by simp) (by rw [e]; exact hgB))) (fun q bq h => ?_)⟩
      ·simp only [List.size_toArray, List.length_append, htk, List.length_drop]; omega
      ·rw [List.toList_toArray, List.append_assoc, List.drop_left' htk, List.take_left' huslen]
       exact qbo _ hus1 (fun b hb => by cases hb)
      ·rcases qfi (u := []) h with h | ⟨h, _, h'⟩
       ·exact .inl h
       ·exact .inr ⟨h, by simpa using h, h'⟩
    ·cases he
   ·cases he
  ·cases he
 ·cases he
theorem qqz (htt : TTok P tt) {o : Oper} {T : Nat} {x : Operand} (ho : ∃ c : Call, o.op = .call c /\ c.callee = .builtin .clear /\ c.args.toList = [x] /\ c.argTypes.toList = [T]) {e : Eff} (he : qlz tt t m T x = some e) (hob : All e.ob) (hA : ARel X ρ n t a) (hM : MRel X ρ w m) (hW : WRel X w) :
  Runs P X ρ w m e.al (execOp a.eval o) e.v e.wr := by
 have hg0 : GT none := fun _ h => by cases h
 obtain ⟨⟨cal, args, argTypes⟩, ho, rfl, ha, hat⟩ := ho
 have ha' : args = #[x] := by rw [← Array.toList_inj]; exact ha
 have hat' : argTypes = #[T] := by rw [← Array.toList_inj]; exact hat
 subst ha' hat'
 unfold qlz at he
 split at he
 ·rename_i i r o1 hT hx
  split at he
  ·rename_i el T'' k' l hd hr
   split at he
   ·rename_i ie hE
    split at he
    ·rename_i hk' hz
     obtain rfl := Option.some.inj he
     have : k' = 1 := by rw [← Nat.beq_eq]; exact hk'
     subst this
     have hz' : ie.z.oneCell' = true := by rw [← qjf]; exact hz
     have hti := htt T i hT
     have hie := htt el ie hE
     rw [qx] at hob
     obtain ⟨hox, hl, _⟩ := hob
     obtain ⟨B, hB⟩ := hM
     obtain ⟨hρx, _⟩ := qw hx hox hg0 hA
     have hu : (underlying T).run P w = .ok (.slice el) w := by rw [run_underlying hti.und w, hd]
     obtain ⟨j, hj, hzj, _, _⟩ := hie.parts
     have hv : (zeroValue el).run P w = .ok ie.z w := by simp [zeroValue, typeInfo, hj, hzj]
     have hzc : (Builtin.zeroCells ie.z.cells l.length).toList = List.replicate l.length ie.z := by
      rw [cells_one hz']
      simp [Builtin.zeroCells]
      apply List.ext_getElem
      ·simp
      ·intro i h1 h2
       simp [Nat.mod_one]
     obtain ⟨z, h1, hown, hlen, hon⟩ := hB.blk r _ hr
     rw [hρx] at h1
     obtain rfl := Option.some.inj h1
     obtain ⟨v', vs', b1, b2, e1, e2, hnil, hrow⟩ := hown
     obtain ⟨e3, rfl⟩ := List.cons.inj e1
     obtain ⟨_, rfl⟩ := hnil
     rw [List.append_nil] at e2
     rcases hrow with ⟨⟨a0, e4⟩, h0, _, hb1⟩ | ⟨g0, o0, cap0, cur, b, e4, hb1, hcur, hc1, hc2, hfit, hcat⟩
     ·have hl10 : l = [] := List.length_eq_zero_iff.1 h0
      subst hl10
      have hrun : (execOp a.eval o).run P w = .ok (.value (.tuple #[])) w := by
       cases a0 <;> simp [execOp, ho, resolve, invoke, builtin, Builtin.clear_, e3, e4, hu]
      refine ⟨_, w, ρ, hrun, ⟨#[], rfl, trivial⟩, Ext.refl ρ, fun _ _ h => .inl h, ?_, hW⟩
      refine ⟨_, hB.upd (Ext.refl ρ) r (.row T'' 1 []) [] [r] (fun q hq => by obtain rfl := List.mem_singleton.1 hq; exact ⟨_, hr⟩) ⟨_, hρx, ⟨_, [], [], [], by rw [e3], rfl, ⟨rfl, rfl⟩, .inl ⟨⟨a0, e4⟩, rfl, rfl, rfl⟩⟩, by simp, by simp⟩ (by simp) (fun z hz => by cases hz) hW.lt (fun z _ _ => rfl) (fun q bq h => ?_)⟩
      rcases qfi (u := []) h with h | ⟨h, _, h'⟩
      ·exact .inl h
      ·exact .inr ⟨h, by simpa using h, h'⟩
     ·have hfl : b = [] := qdw (w' := w) (qeo hl) hcat
      subst hfl
      simp only [Nat.mul_one] at hfit
      by_cases hl0 : l.length = 0
      ·have hl10 : l = [] := List.length_eq_zero_iff.1 hl0
       subst hl10
       have hrun : (execOp a.eval o).run P w = .ok (.value (.tuple #[])) w := by
        simp [execOp, ho, resolve, invoke, builtin, Builtin.clear_, e3, e4, hu]
       refine ⟨_, w, ρ, hrun, ⟨#[], rfl, trivial⟩, Ext.refl ρ, fun _ _ h => .inl h, ?_, hW⟩
       refine ⟨_, hB.upd (Ext.refl ρ) r (.row T'' 1 []) [g0] [r] (fun q hq => by obtain rfl := List.mem_singleton.1 hq; exact ⟨_, hr⟩) ⟨_, hρx, ⟨_, [], [g0], [], by rw [e3], rfl, ⟨rfl, rfl⟩, .inr ⟨g0, o0, cap0, cur, [], by rw [e4], rfl, hcur, hc1, hc2, by rw [Nat.mul_one]; exact hfit, hcat⟩⟩, by simp, by simp⟩ (by simp) (fun z hz => .inl ⟨r, by simp, by rw [e2, hb1]; exact hz⟩) hW.lt (fun z _ _ => rfl) (fun q bq h => ?_)⟩
       rcases qfi (u := []) h with h | ⟨h, _, h'⟩
       ·exact .inl h
       ·exact .inr ⟨h, by simpa using h, h'⟩
      ·obtain ⟨N, hN⟩ : ∃ N, l.length = N + 1 := ⟨l.length - 1, by omega⟩
       have hfit2 : o0 + 0 + (List.replicate l.length ie.z).length <= cur.size := by rw [List.length_replicate]; omega
       have hus2 : ∀ u ∈ List.replicate l.length ie.z, u.oneCell' = true := by intro u hu; rw [List.eq_of_mem_replicate hu]; exact hz'
       have hst := run_storeCells_at (P := P) g0 o0 T'' (List.replicate l.length ie.z) 0 cur w hcur hfit2 hus2
       rw [Nat.add_zero] at hst
       have hrun : (execOp a.eval o).run P w = .ok (.value (.tuple #[])) (w.setRow g0 (cur.toList.take o0 ++ List.replicate l.length ie.z ++ cur.toList.drop (o0 + (List.replicate l.length ie.z).length)).toArray) := by
        rw [hN] at hzc hst e4
        rw [hN]
        simp only [execOp, ho, resolve, invoke, builtin, Builtin.clear_, e3, e4, hu, hv, hzc, hst]
        simp [e3, e4, hu, hv, hzc, hst]
       have hgB : g0 ∈ B r := by rw [e2, hb1]; simp
       have hgF : ¬ X.G g0 := hB.nf r _ hr g0 hgB
       have hnew := setRow_heap w g0 cur (cur.toList.take o0 ++ List.replicate l.length ie.z ++ cur.toList.drop (o0 + (List.replicate l.length ie.z).length)).toArray T'' (0, 0) hcur
       have hcl : cur.toList.length = cur.size := Array.length_toList
       have htk : (cur.toList.take o0).length = o0 := by rw [List.length_take]; omega
       refine ⟨_, _, ρ, hrun, ⟨#[], rfl, trivial⟩, Ext.refl ρ, fun _ _ h => .inl h, ?_, hW.upd rfl rfl rfl (by rw [size_setRow]; exact Nat.le_refl _) (fun b hb => setRow_other _ _ _ _ (fun e => hgF (e ▸ hb)))⟩
       refine ⟨_, hB.upd (Ext.refl ρ) r (.row T'' 1 (List.replicate l.length (.lit ie.z .nil))) [g0] [r] (fun q hq => by obtain rfl := List.mem_singleton.1 hq; exact ⟨_, hr⟩) ⟨_, hρx, ⟨_, [], [g0], [], by rw [e3], rfl, ⟨rfl, rfl⟩, .inr ⟨g0, o0, cap0, _, [], by rw [e4, List.length_replicate], rfl, hnew, by rw [List.length_replicate]; exact hc1, hc2, ?_, ?_⟩⟩, fun d hd => by rw [List.eq_of_mem_replicate hd]; rfl, fun d hd => by rw [List.eq_of_mem_replicate hd]; exact ⟨hz', trivial⟩⟩ (by simp) (fun z hz => .inl ⟨r, by simp, by rw [e2, hb1]; exact hz⟩) hW.lt (fun z _ hz => setRow_other _ _ _ _ (fun e => hz r (by simp) (e ▸ hgB))) (fun q bq h => ?_)⟩
       ·simp only [List.size_toArray, List.length_append, htk, List.length_drop, List.length_replicate]; omega
       ·rw [List.toList_toArray, List.append_assoc, List.drop_left' htk, Nat.mul_one, show (List.replicate l.length (D.lit ie.z .nil)).length = (List.replicate l.length ie.z).length by rw [List.length_replicate, List.length_replicate], List.take_left' rfl]
        have : ∀ n : Nat, Own (w.setRow g0 (cur.toList.take o0 ++ List.replicate l.length ie.z ++ cur.toList.drop (o0 + (List.replicate l.length ie.z).length)).toArray) (D.cat (List.replicate n (.lit ie.z .nil))) (List.replicate n ie.z) [] := by
         intro n
         induction n with
         | zero => exact ⟨rfl, rfl⟩
         | succ n ih => exact ⟨_, rfl, ih⟩
        simpa using this l.length
       ·rcases qfi (u := []) h with h | ⟨h, _, h'⟩
        ·exact .inl h
        ·exact .inr ⟨h, by simpa using h, h'⟩
    ·cases he
   ·cases he
  ·cases he
 ·cases he
theorem qau (hg : GT g) (hA : ARel X ρ n t a) {x : Option Operand} {d b : Int} {o : List Prop} (h : qff t g x d = some (b, o)) (ho : All o) : (x = none /\ b = d) ∨ ∃ y k, x = some y /\ a.eval y = .int k b := by
 unfold qff at h
 split at h
 ·simp at h; exact .inl ⟨rfl, h.1.symm⟩
 ·split at h
  ·rename_i hx
   simp at h
   obtain ⟨rfl, rfl⟩ := h
   exact .inr ⟨_, _, rfl, (qw hx ho hg hA).1⟩
  ·cases h
theorem qgu (w : World) (k : IntKind) (i : Int) (y : Nat) (code : BoundsCode) (h0 : 0 <= i) (h1 : i <= y) : (Instr.sliceBound (.int k i) y code).run P w = .ok i.toNat w := by
 simp [Instr.sliceBound, asIntOf, h0, h1]
theorem qep {T e sz : Nat} {A : Option Addr} {len cap : Nat} (hu : P.underlying T = some (.slice e)) (hsz : ∀ w, (sizeOf e).run P w = .ok sz w) {lo hi : Option Operand} {p q : Int} (hlo : (lo = none /\ p = 0) ∨ ∃ y k, lo = some y /\ a.eval y = .int k p) (hhi : (hi = none /\ q = len) ∨ ∃ y k, hi = some y /\ a.eval y = .int k q)
  (h0 : 0 <= p) (h1 : p <= q) (h2 : q <= len) (h3 : len <= cap) :
  (Instr.sliceAt T (.slice A len cap) (lo.map a.eval) (hi.map a.eval) none).run P w = .ok (.slice (if cap = p.toNat then A else A.map (·.add (p.toNat * sz))) (q.toNat - p.toNat) (cap - p.toNat)) w := by
 have eq : (q.toNat : Int) = q := Int.toNat_of_nonneg (by omega)
 rcases hlo with ⟨rfl, rfl⟩ | ⟨y, k, rfl, hy⟩ <;> rcases hhi with ⟨rfl, rfl⟩ | ⟨y', k', rfl, hy'⟩
 ·simp [Instr.sliceAt, Instr.slice, run_underlying hu, Instr.sliceBounds, hsz]
 ·simp [Instr.sliceAt, Instr.slice, run_underlying hu, Instr.sliceBounds, hsz, hy', qgu w k' q cap _ (by omega) (by omega)]
 ·simp [Instr.sliceAt, Instr.slice, run_underlying hu, Instr.sliceBounds, hsz, hy, qgu w k p len _ (by omega) (by omega)]
 ·simp [Instr.sliceAt, Instr.slice, run_underlying hu, Instr.sliceBounds, hsz, hy, hy', qgu w k' q cap _ (by omega) (by omega), qgu w k p q.toNat _ (by omega) (by omega)]
theorem qoe {T e sz : Nat} {A : Option Addr} {len cap : Nat} (hu : P.underlying T = some (.slice e)) (hsz : ∀ w, (sizeOf e).run P w = .ok sz w) {lo hi : Option Operand} {mx : Operand} {p q c : Int} (hlo : (lo = none /\ p = 0) ∨ ∃ y k, lo = some y /\ a.eval y = .int k p) (hhi : ∃ y k, hi = some y /\ a.eval y = .int k q) (hmx : ∃ k, a.eval mx = .int k c)
  (h0 : 0 <= p) (h1 : p <= q) (h2 : q <= c) (h3 : c <= cap) :
  (Instr.sliceAt T (.slice A len cap) (lo.map a.eval) (hi.map a.eval) (some (a.eval mx))).run P w = .ok (.slice (if c.toNat = p.toNat then A else A.map (·.add (p.toNat * sz))) (q.toNat - p.toNat) (c.toNat - p.toNat)) w := by
 obtain ⟨k3, hm⟩ := hmx
 obtain ⟨y', k', rfl, hy'⟩ := hhi
 rcases hlo with ⟨rfl, rfl⟩ | ⟨y, k, rfl, hy⟩
 ·simp [Instr.sliceAt, Instr.slice, run_underlying hu, Instr.sliceBounds, hsz, hm, hy', qgu w k3 c cap _ (by omega) (by omega), qgu w k' q c.toNat _ (by omega) (by omega)]
 ·simp [Instr.sliceAt, Instr.slice, run_underlying hu, Instr.sliceBounds, hsz, hm, hy, hy', qgu w k3 c cap _ (by omega) (by omega), qgu w k' q c.toNat _ (by omega) (by omega), qgu w k p q.toNat _ (by omega) (by omega)]
theorem ql2 {w : World} {k : Nat} {l : List D} {us : List Value} (hl : ∀ d ∈ l, d.len = k) (hf : ∀ d ∈ l, d.flat) (h : Own w (D.cat l) us []) {p q : Nat} (h1 : p <= q) (h2 : q <= l.length) :
  Own w (D.cat ((l.take q).drop p)) ((us.drop (p * k)).take ((q - p) * k)) [] := by
 have e1 : l = l.take q ++ l.drop q := (List.take_append_drop q l).symm
 have e2 : l.take q = (l.take q).take p ++ (l.take q).drop p := (List.take_append_drop p _).symm
 have hm : ∀ d ∈ l.take q, d.len = k := fun d hd => hl d (List.mem_of_mem_take hd)
 have l1 : (D.cat (l.take q)).len = q * k := by rw [D.len_cat k _ hm, List.length_take, Nat.min_eq_left h2]
 have l2 : (D.cat ((l.take q).take p)).len = p * k := by rw [D.len_cat k _ (fun d hd => hm d (List.mem_of_mem_take hd)), List.length_take, List.length_take, Nat.min_eq_left (by omega)]
 rw [e1, D.cat_append] at h
 obtain ⟨b1, b2, e3, h3, _⟩ := qn2 h
 obtain ⟨rfl, rfl⟩ := List.append_eq_nil_iff.1 e3.symm
 rw [l1, e2, D.cat_append] at h3
 obtain ⟨b1, b2, e3, _, h4⟩ := qn2 h3
 obtain ⟨rfl, rfl⟩ := List.append_eq_nil_iff.1 e3.symm
 have e5 : (us.drop (p * k)).take ((q - p) * k) = (us.take (q * k)).drop (p * k) := by rw [List.drop_take, Nat.sub_mul]
 rw [l2] at h4
 rw [e5]
 exact h4
theorem qul {w : World} {F : Nat -> Prop} {k : Nat} {l : List D} {us : List Value} (hl : ∀ d ∈ l, d.len = k) (h : RdO w F (D.cat l) us) {p q : Nat} (h1 : p <= q) (h2 : q <= l.length) :
  RdO w F (D.cat ((l.take q).drop p)) ((us.drop (p * k)).take ((q - p) * k)) := by
 have e1 : l = l.take q ++ l.drop q := (List.take_append_drop q l).symm
 have e2 : l.take q = (l.take q).take p ++ (l.take q).drop p := (List.take_append_drop p _).symm
 have hm : ∀ d ∈ l.take q, d.len = k := fun d hd => hl d (List.mem_of_mem_take hd)
 have l1 : (D.cat (l.take q)).len = q * k := by rw [D.len_cat k _ hm, List.length_take, Nat.min_eq_left h2]
 have l2 : (D.cat ((l.take q).take p)).len = p * k := by rw [D.len_cat k _ (fun d hd => hm d (List.mem_of_mem_take hd)), List.length_take, List.length_take, Nat.min_eq_left (by omega)]
 rw [e1, D.cat_append] at h
 obtain ⟨v1, v2, rfl, h3, _⟩ := (qfs _ _).1 h
 have g1 := qgp _ h3
 rw [l1] at g1
 rw [e2, D.cat_append] at h3
 obtain ⟨v3, v4, rfl, h5, h6⟩ := (qfs _ _).1 h3
 have g2 := qgp _ h5
 have g3 := qgp _ h6
 rw [l2] at g2
 rw [List.length_append] at g1
 rw [List.append_assoc, List.drop_left' g2, List.take_left' (by rw [Nat.sub_mul]; omega)]
 exact h6
theorem qyc {w : World} {F : Nat -> Prop} {T k : Nat} {l : List D} {A : Option Addr} {len cap : Nat} (hlen : ∀ d ∈ l, d.len = k) (h : RdO w F (.row T k l.length (D.cat l) .nil) [.slice A len cap]) {a n : Nat} (han : a + n <= len) :
  RdO w F (.row T k n (D.cat ((l.take (a + n)).drop a)) .nil) [.slice (if cap = a then A else A.map (·.add (a * k))) n (cap - a)] := by
 obtain ⟨v', vs', e1, e2, hrow⟩ := h
 obtain ⟨e3, _⟩ := List.cons.inj e1
 rcases hrow with ⟨⟨a0, c0, e4, hac⟩, hn0, hc0⟩ | ⟨g0, o0, cap0, us, e4, hc1, hc2, hul, hcell, hF, hcat⟩
 ·have hl0 : l = [] := List.length_eq_zero_iff.1 hn0
  subst hl0
  rw [e4] at e3
  injection e3 with q1 q2 q3
  subst q1 q2 q3
  obtain rfl : a = 0 := by omega
  obtain rfl : n = 0 := by omega
  refine ⟨_, [], rfl, rfl, .inl ⟨⟨_, _, rfl, fun ha => ?_⟩, rfl, by simp [D.cat]⟩⟩
  cases A with
  | none => have := hac rfl; omega
  | some ad => exact absurd ha (by split <;> simp)
 ·rw [e4] at e3
  injection e3 with q1 q2 q3
  subst q1 q2 q3
  have hln : ((l.take (a + n)).drop a).length = n := by rw [List.length_drop, List.length_take, Nat.min_eq_left han]; omega
  by_cases hpc : cap = a
  ·have hq : n = 0 := by omega
   subst hq
   have hnil : (l.take (a + 0)).drop a = [] := List.length_eq_zero_iff.1 hln
   rw [hnil, if_pos hpc]
   exact ⟨_, [], rfl, rfl, .inl ⟨⟨_, _, rfl, fun _ => by omega⟩, rfl, rfl⟩⟩
  ·rw [if_neg hpc]
   have hmid := qul hlen hcat (p := a) (q := a + n) (by omega) (by omega)
   rw [Nat.add_sub_cancel_left] at hmid
   have hmul : (a + n) * k = a * k + n * k := Nat.add_mul _ _ _
   have hql : (a + n) * k <= l.length * k := Nat.mul_le_mul_right _ (by omega)
   refine ⟨_, [], rfl, rfl, .inr ⟨g0, o0 + a * k, cap - a, _, by simp [qey], by omega, by omega, ?_, ?_, fun hpos => hF (by omega), hmid⟩⟩
   ·rw [List.length_take, List.length_drop, hul]; omega
   ·intro j hj
    rw [List.getElem?_take, if_pos hj, List.getElem?_drop, ← hcell _ (by omega), Nat.add_assoc]
theorem qq0 (htt : TTok P tt) {o : Oper} {T s : Nat} {x : Operand} {lo hi : Option Operand} {inp : Inp} (ho : o.op = .slice T x lo hi none) {e : Eff} (he : qpd tt t m s g inp T x lo hi = some e) (hob : All e.ob) (hs : ∀ r ∈ e.al, ρ r = none) (hg : GT g) (hA : ARel X ρ n t a) (hM : MRel X ρ w m) (hW : WRel X w) :
  Runs P X ρ w m e.al (execOp a.eval o) e.v e.wr := by
 unfold qpd at he
 split at he
 ·rename_i i v o1 hT hx
  split at he
  ·rename_i el hd
   split at he
   ·rename_i ie hE
    have hti := htt T i hT
    have hie := htt el ie hE
    have hu : P.underlying T = some (.slice el) := by rw [hti.und, hd]
    split at he
    ·rename_i r
     split at he
     ·rename_i T' k l hr
      split at he
      ·split at he
       ·rename_i p o2 q o3 hk1 hk2 hlo hhi
        obtain rfl := Option.some.inj he
        rw [qx, qx, qx] at hob
        obtain ⟨ho1, ho2, ho3, h0, h1, h2, _⟩ := hob
        have : T' = el := by rw [← Nat.beq_eq]; exact hk1
        subst this
        have : k = ie.size := by rw [← Nat.beq_eq]; exact hk2
        subst this
        obtain ⟨hρx, _⟩ := qw hx ho1 hg hA
        obtain ⟨B, hB⟩ := hM
        obtain ⟨z, e1, hown, hlen, hon⟩ := hB.blk r _ hr
        rw [hρx] at e1
        obtain rfl := Option.some.inj e1
        obtain ⟨v', vs', b1, b2, e1, e2, ⟨rfl, rfl⟩, hrow⟩ := hown
        obtain ⟨e3, _⟩ := List.cons.inj e1
        rcases hrow with ⟨⟨a0, e4⟩, hn0, hc0, hb1⟩ | ⟨g0, o0, cap0, cur, b, e4, hb1, hcur, hc1, hc2, hfit, hcat⟩
        ·have hl0 : l = [] := List.length_eq_zero_iff.1 hn0
         subst hl0
         have hrun := qep (w := w) (A := a0) (len := 0) (cap := 0) hu (jm hie.size) (qau hg hA hlo ho2) (by simpa using qau hg hA hhi ho3) h0 h1 (by simpa using h2) (Nat.le_refl _)
         refine Runs.pure (x := _) ?_ ⟨a0, 0, 0, by rw [hρx, e3, e4], rfl, by simp at h2; omega⟩ ⟨B, hB⟩ hW
         simp [execOp, ho, e3, e4, hrun]
        ·have hrun := qep (w := w) (A := some ⟨g0, o0, none⟩) (len := l.length) (cap := cap0) hu (jm hie.size) (qau hg hA hlo ho2) (qau hg hA hhi ho3) h0 h1 h2 hc1
         refine Runs.pure (x := _) ?_ ⟨some ⟨g0, o0, none⟩, l.length, cap0, by rw [hρx, e3, e4], rfl, by omega⟩ ⟨B, hB⟩ hW
         simp [execOp, ho, e3, e4, hrun]
       ·cases he
      split at he
      ·rename_i p o2 q o3 hk1 hk2 hlo hhi
       obtain rfl := Option.some.inj he
       rw [qx, qx, qx] at hob
       obtain ⟨ho1, ho2, ho3, h0, h1, h2, hfl, _⟩ := hob
       have : T' = el := by rw [← Nat.beq_eq]; exact hk1
       subst this
       have : k = ie.size := by rw [← Nat.beq_eq]; exact hk2
       subst this
       obtain ⟨B, hB⟩ := hM
       obtain ⟨hρx, _⟩ := qw hx ho1 hg hA
       obtain ⟨z, e1, hown, hlen, hon⟩ := hB.blk r _ hr
       rw [hρx] at e1
       obtain rfl := Option.some.inj e1
       have hnd := hB.nd r _ hr
       obtain ⟨v', vs', b1, b2, e1, e2, ⟨rfl, rfl⟩, hrow⟩ := hown
       obtain ⟨e3, _⟩ := List.cons.inj e1
       rw [List.append_nil] at e2
       have hl' : ∀ d ∈ (l.take q.toNat).drop p.toNat, d ∈ l := fun d hd => List.mem_of_mem_take (List.mem_of_mem_drop hd)
       have hln : ((l.take q.toNat).drop p.toNat).length = q.toNat - p.toNat := by rw [List.length_drop, List.length_take, Nat.min_eq_left (by omega)]
       rcases hrow with ⟨⟨a0, e4⟩, hn0, hc0, hb1⟩ | ⟨g0, o0, cap0, cur, b, e4, hb1, hcur, hc1, hc2, hfit, hcat⟩
       ·have hl0 : l = [] := List.length_eq_zero_iff.1 hn0
        subst hl0
        have hp : p = 0 := by simp at h2; omega
        have hq : q = 0 := by simp at h2; omega
        have hrun := qep (w := w) (A := a0) (len := 0) (cap := 0) hu (jm hie.size) (qau hg hA hlo ho2) (by simpa using qau hg hA hhi ho3) h0 h1 (by simpa using h2) (Nat.le_refl _)
        rw [hp, hq] at hrun ⊢
        refine qdi hB (u := [r]) (v := .slice a0 0 0) (bs := []) (w' := w) ?_ (hs s (by simp)) ⟨_, [], [], [], rfl, rfl, ⟨rfl, rfl⟩, .inl ⟨⟨a0, rfl⟩, by simp, by simp [D.cat], rfl⟩⟩ (by simp) (by simp) (by simp) (fun r' hr' => by obtain rfl := List.mem_singleton.1 hr'; exact ⟨_, hr⟩) (by simp) (fun _ _ _ => rfl) rfl rfl rfl (Nat.le_refl _) hW
        simp [execOp, ho, e3, e4, hrun]
       ·have hb : b = [] := qdw (w' := w) (qeo hfl) hcat
        subst hb
        have hrun := qep (w := w) (A := some ⟨g0, o0, none⟩) (len := l.length) (cap := cap0) hu (jm hie.size) (qau hg hA hlo ho2) (qau hg hA hhi ho3) h0 h1 h2 hc1
        have hmid := ql2 hlen hfl hcat (p := p.toNat) (q := q.toNat) (by omega) (by omega)
        have hcl : cur.toList.length = cur.size := Array.length_toList
        by_cases hpc : cap0 = p.toNat
        ·rw [if_pos hpc] at hrun
         have hq : q.toNat - p.toNat = 0 := by omega
         have hc : cap0 - p.toNat = 0 := by omega
         have hnil : (l.take q.toNat).drop p.toNat = [] := List.length_eq_zero_iff.1 (hln.trans hq)
         rw [hq, hc] at hrun
         rw [hnil]
         refine qdi hB (u := [r]) (v := .slice (some ⟨g0, o0, none⟩) 0 0) (bs := []) (w' := w) ?_ (hs s (by simp)) ⟨_, [], [], [], rfl, rfl, ⟨rfl, rfl⟩, .inl ⟨⟨_, rfl⟩, rfl, rfl, rfl⟩⟩ (by simp) (by simp) (by simp) (fun r' hr' => by obtain rfl := List.mem_singleton.1 hr'; exact ⟨_, hr⟩) (by simp) (fun _ _ _ => rfl) rfl rfl rfl (Nat.le_refl _) hW
         simp [execOp, ho, e3, e4, hrun]
        ·rw [if_neg hpc] at hrun
         refine qdi hB (u := [r]) (v := .slice (some ⟨g0, o0 + p.toNat * ie.size, none⟩) (q.toNat - p.toNat) (cap0 - p.toNat)) (bs := [g0]) (w' := w) ?_ (hs s (by simp)) ⟨_, [], [g0], [], rfl, rfl, ⟨rfl, rfl⟩, .inr ⟨g0, o0 + p.toNat * ie.size, cap0 - p.toNat, cur, [], by rw [hln], rfl, hcur, by rw [hln]; omega, by omega, ?_, ?_⟩⟩ (fun d hd => hlen d (hl' d hd)) (fun d hd => hon d (hl' d hd)) (by simp) (fun r' hr' => by obtain rfl := List.mem_singleton.1 hr'; exact ⟨_, hr⟩) (fun y hy => .inl ⟨r, by simp, by rw [e2, hb1]; exact hy⟩) (fun _ _ _ => rfl) rfl rfl rfl (Nat.le_refl _) hW
         ·simp [execOp, ho, e3, e4, hrun, qey]
         ·have : (cap0 - p.toNat) * ie.size = cap0 * ie.size - p.toNat * ie.size := Nat.sub_mul _ _ _
          have : p.toNat * ie.size <= cap0 * ie.size := Nat.mul_le_mul_right _ (by omega)
          omega
         ·rw [hln]
          have : min ((q.toNat - p.toNat) * ie.size) (l.length * ie.size - p.toNat * ie.size) = (q.toNat - p.toNat) * ie.size := by
           rw [← Nat.sub_mul]
           exact Nat.min_eq_left (Nat.mul_le_mul_right _ (by omega))
          have e5 : (((cur.toList.drop o0).take (l.length * ie.size)).drop (p.toNat * ie.size)).take ((q.toNat - p.toNat) * ie.size) = (cur.toList.drop (o0 + p.toNat * ie.size)).take ((q.toNat - p.toNat) * ie.size) := by
           rw [List.drop_take, List.take_take, List.drop_drop, this]
          rw [← e5]
          exact hmid
      ·cases he
     ·cases he
    ·rename_i T' k n' c
     split at he
     ·rename_i l
      split at he
      ·rename_i p o2 q o3 hk hlo hhi
       have : k = ie.size := by rw [← Nat.beq_eq]; exact hk
       subst this
       refine jl (x := (match (Instr.sliceAt T (a.eval x) (lo.map a.eval) (hi.map a.eval) none).run P w with | .ok v _ => v | _ => .nilIface)) he hob hg hM hW (fun g1 g2 => ?_)
       rw [qx, qx] at g1
       obtain ⟨ho1, ho2, ho3⟩ := g1
       obtain ⟨rfl, rfl, hlen, h0, h1, h2, _⟩ := g2
       have hln : ((l.take q.toNat).drop p.toNat).length = q.toNat - p.toNat := by rw [List.length_drop, List.length_take, Nat.min_eq_left (by omega)]
       have hown : RdO X.w0 X.F (.row T' ie.size l.length (D.cat l) .nil) [a.eval x] := qw hx ho1 hg hA
       obtain ⟨v', vs', e1, e2, hrow⟩ := hown
       obtain ⟨e3, _⟩ := List.cons.inj e1
       rcases hrow with ⟨⟨a0, c0, e4, hac⟩, hn0, hc0⟩ | ⟨g0, o0, cap0, us, e4, hc1, hc2, hul, hcell, hF, hcat⟩
       ·have hl0 : l = [] := List.length_eq_zero_iff.1 hn0
        subst hl0
        have hp : p = 0 := by simp at h2; omega
        have hq : q = 0 := by simp at h2; omega
        have hrun := qep (w := w) (A := a0) (len := 0) (cap := c0) hu (jm hie.size) (qau hg hA hlo ho2) (by simpa using qau hg hA hhi ho3) h0 h1 (by simpa using h2) (Nat.zero_le _)
        rw [hp, hq] at hrun ⊢
        rw [e3, e4, hrun]
        refine ⟨by simp [execOp, ho, e3, e4, hrun], ?_⟩
        refine ⟨_, [], rfl, rfl, .inl ⟨⟨_, _, rfl, fun ha => ?_⟩, by simp, by simp [D.cat]⟩⟩
        cases a0 with
        | none => have := hac rfl; omega
        | some ad => exact absurd ha (by split <;> simp)
       ·have hrun := qep (w := w) (A := some ⟨g0, o0, none⟩) (len := l.length) (cap := cap0) hu (jm hie.size) (qau hg hA hlo ho2) (qau hg hA hhi ho3) h0 h1 h2 hc1
        rw [e3, e4, hrun]
        refine ⟨by simp [execOp, ho, e3, e4, hrun], ?_⟩
        by_cases hpc : cap0 = p.toNat
        ·have hq : q.toNat - p.toNat = 0 := by omega
         have hnil : (l.take q.toNat).drop p.toNat = [] := List.length_eq_zero_iff.1 (hln.trans hq)
         rw [hnil, hq]
         exact ⟨_, [], rfl, rfl, .inl ⟨⟨_, _, rfl, fun _ => by omega⟩, rfl, rfl⟩⟩
        ·rw [if_neg hpc]
         have hmid := qul hlen hcat (p := p.toNat) (q := q.toNat) (by omega) (by omega)
         have hmul : (q.toNat - p.toNat) * ie.size = q.toNat * ie.size - p.toNat * ie.size := Nat.sub_mul _ _ _
         have hql : q.toNat * ie.size <= l.length * ie.size := Nat.mul_le_mul_right _ (by omega)
         have hpq : p.toNat * ie.size <= q.toNat * ie.size := Nat.mul_le_mul_right _ (by omega)
         refine ⟨_, [], rfl, rfl, .inr ⟨g0, o0 + p.toNat * ie.size, cap0 - p.toNat, _, by simp [qey], by omega, by omega, ?_, ?_, fun hpos => hF (by omega), hmid⟩⟩
         ·rw [List.length_take, List.length_drop, hul]; omega
         ·intro j hj
          rw [List.getElem?_take, if_pos hj, List.getElem?_drop, ← hcell _ (by omega), Nat.add_assoc]
      ·cases he
     ·cases he
    ·split at he
     ·split at he
      ·rename_i A ln cp
       split at he
       ·rename_i p o2 q o3 hlo hhi
        refine jl (x := .slice (A.map (·.add (p.toNat * ie.size))) (q.toNat - p.toNat) (cp - p.toNat)) he hob hg hM hW (fun g1 g2 => ?_)
        rw [qx, qx] at g1
        obtain ⟨ho1, ho2, ho3⟩ := g1
        obtain ⟨h0, h1, h2, h3, h4, _⟩ := g2
        have hex := (qw hx ho1 hg hA).1
        have hrun := qep (w := w) (A := A) (len := ln) (cap := cp) hu (jm hie.size) (qau hg hA hlo ho2) (qau hg hA hhi ho3) h0 h1 h2 h4
        rw [if_neg (by omega)] at hrun
        refine ⟨by simp [execOp, ho, hex, hrun], rfl, rfl⟩
       ·cases he
      ·cases he
     ·split at he
      ·split at he
       ·rename_i p o2 q o3 hlo hhi
        refine jl (x := .slice none 0 0) he hob hg hM hW (fun g1 g2 => ?_)
        rw [qx, qx] at g1
        obtain ⟨ho1, ho2, ho3⟩ := g1
        obtain ⟨rfl, rfl, _⟩ := g2
        have hex := (qw hx ho1 hg hA).1
        have hrun := qep (w := w) (A := none) (len := 0) (cap := 0) hu (jm hie.size) (qau hg hA hlo ho2) (qau hg hA hhi ho3) (Int.le_refl _) (Int.le_refl _) (Int.le_refl _) (Nat.le_refl _)
        refine ⟨by simp [execOp, ho, hex, hrun], rfl, rfl⟩
       ·cases he
      ·cases he
    ·cases he
   ·cases he
  ·cases he
 ·cases he
theorem qs2 (c rep : List Value) (o0 a n len : Nat) (hr : rep.length = n) (h1 : a + n <= len) (h2 : o0 + len <= c.length) :
  ((c.take (o0 + a) ++ rep ++ c.drop (o0 + a + n)).drop o0).take len = ((c.drop o0).take len).take a ++ (rep ++ ((c.drop o0).take len).drop (a + n)) := by
 have e1 : c.take (o0 + a) = c.take o0 ++ (c.drop o0).take a := List.take_add
 have e2 : (c.take o0).length = o0 := by rw [List.length_take]; omega
 have e3 : c.drop (o0 + a + n) = (c.drop o0).drop (a + n) := by rw [List.drop_drop, Nat.add_assoc]
 rw [e1, List.append_assoc, List.append_assoc, List.drop_left' e2, e3]
 have e4 : (c.drop o0).length = c.length - o0 := List.length_drop
 have e5 : ((c.drop o0).take a).length = a := by rw [List.length_take]; omega
 rw [List.take_append, e5, List.take_append, hr, List.take_of_length_le (l := (c.drop o0).take a) (by omega), List.take_of_length_le (l := rep) (by omega), List.take_take, Nat.min_eq_left (by omega), List.drop_take, show len - a - n = len - (a + n) by omega]
theorem qq1 {w : World} {z : Value} : ∀ n : Nat, Own w (D.cat (List.replicate n (.lit z .nil))) (List.replicate n z) []
 | 0 => ⟨rfl, rfl⟩
 | n + 1 => ⟨_, rfl, qq1 n⟩
theorem qpm (htt : TTok P tt) {o : Oper} {T p0 q0 : Nat} {x : Operand} (ho : ∃ c : Call, o.op = .call c /\ c.callee = .builtin .clear /\ c.args.toList = [x] /\ c.argTypes.toList = [T]) {e : Eff} (he : qjc tt t m T x p0 q0 = some e) (hob : All e.ob) (hA : ARel X ρ n t a) (hM : MRel X ρ w m) (hW : WRel X w) :
  Runs P X ρ w m e.al (execOp a.eval o) e.v e.wr := by
 have hg0 : GT none := fun _ h => by cases h
 obtain ⟨⟨cal, args, argTypes⟩, ho, rfl, ha, hat⟩ := ho
 have ha' : args = #[x] := by rw [← Array.toList_inj]; exact ha
 have hat' : argTypes = #[T] := by rw [← Array.toList_inj]; exact hat
 subst ha' hat'
 unfold qjc at he
 split at he
 ·rename_i i y o1 q zz hT hx hp
  split at he
  ·rename_i A' n' c' A ln cp el T'' k' l hd hr
   split at he
   ·rename_i ie hE
    split at he
    ·rename_i hk' hz
     obtain rfl := Option.some.inj he
     have : k' = 1 := by rw [← Nat.beq_eq]; exact hk'
     subst this
     have hz' : ie.z.oneCell' = true := by rw [← qjf]; exact hz
     have hti := htt T i hT
     have hie := htt el ie hE
     rw [qx] at hob
     obtain ⟨hox, hA', hfit0, hn0, hl, _⟩ := hob
     obtain ⟨B, hB⟩ := hM
     obtain ⟨hex, _⟩ := qw hx hox hg0 hA
     obtain ⟨_, hpq, _⟩ := hB.blk q0 _ hp
     have hu : (underlying T).run P w = .ok (.slice el) w := by rw [run_underlying hti.und w, hd]
     obtain ⟨j, hj, hzj, _, _⟩ := hie.parts
     have hv : (zeroValue el).run P w = .ok ie.z w := by simp [zeroValue, typeInfo, hj, hzj]
     have hzc : (Builtin.zeroCells ie.z.cells n').toList = List.replicate n' ie.z := by
      rw [cells_one hz']
      simp [Builtin.zeroCells]
      apply List.ext_getElem
      ·simp
      ·intro i h1 h2
       simp [Nat.mod_one]
     obtain ⟨z, h1, hown, hlen, hon⟩ := hB.blk q _ hr
     rw [hpq] at h1
     obtain rfl := Option.some.inj h1
     obtain ⟨v', vs', b1, b2, e1, e2, hnil, hrow⟩ := hown
     obtain ⟨e3, rfl⟩ := List.cons.inj e1
     obtain ⟨_, rfl⟩ := hnil
     rw [List.append_nil] at e2
     rcases hrow with ⟨⟨a0, e4⟩, h0, _, hb1⟩ | ⟨g0, o0, cap0, cur, b, e4, hb1, hcur, hc1, hc2, hfit, hcat⟩
     ·have hl10 : l = [] := List.length_eq_zero_iff.1 h0
      subst hl10
      simp at hfit0; omega
     ·have hfl : b = [] := qdw (w' := w) (qeo hl) hcat
      subst hfl
      simp only [Nat.mul_one] at hfit
      subst e3
      cases e4
      obtain rfl := hA'
      have hcl : cur.toList.length = cur.size := Array.length_toList
      obtain ⟨N, hN⟩ : ∃ N, n' = N + 1 := ⟨n' - 1, by omega⟩
      have hfit2 : o0 + p0 + 0 + (List.replicate n' ie.z).length <= cur.size := by rw [List.length_replicate]; omega
      have hus2 : ∀ u ∈ List.replicate n' ie.z, u.oneCell' = true := by intro u hu; rw [List.eq_of_mem_replicate hu]; exact hz'
      have hst := run_storeCells_at (P := P) g0 (o0 + p0) T'' (List.replicate n' ie.z) 0 cur w hcur hfit2 hus2
      rw [Nat.add_zero] at hst
      have hadd : (some (⟨g0, o0, none⟩ : Addr)).map (·.add (p0 * 1)) = some ⟨g0, o0 + p0, none⟩ := by simp [qey]
      rw [hadd] at hex
      have hrun : (execOp a.eval o).run P w = .ok (.value (.tuple #[])) (w.setRow g0 (cur.toList.take (o0 + p0) ++ List.replicate n' ie.z ++ cur.toList.drop (o0 + p0 + (List.replicate n' ie.z).length)).toArray) := by
       rw [hN] at hzc hst hex
       rw [hN]
       simp only [execOp, ho, resolve, invoke, builtin, Builtin.clear_, hex, hu, hv, hzc, hst]
       simp [hex, hu, hv, hzc, hst]
      have hgB : g0 ∈ B q := by rw [e2, hb1]; simp
      have hgF : ¬ X.G g0 := hB.nf q _ hr g0 hgB
      have hnew := setRow_heap w g0 cur (cur.toList.take (o0 + p0) ++ List.replicate n' ie.z ++ cur.toList.drop (o0 + p0 + (List.replicate n' ie.z).length)).toArray T'' (0, 0) hcur
      have htk : (cur.toList.take (o0 + p0)).length = o0 + p0 := by rw [List.length_take]; omega
      have hll : (l.take p0 ++ (List.replicate n' (D.lit ie.z .nil) ++ l.drop (p0 + n'))).length = l.length := by simp only [List.length_append, List.length_take, List.length_replicate, List.length_drop]; omega
      have hmem : ∀ d ∈ l.take p0 ++ (List.replicate n' (D.lit ie.z .nil) ++ l.drop (p0 + n')), d ∈ l ∨ d = D.lit ie.z .nil := by
       intro d hd
       rw [List.mem_append, List.mem_append] at hd
       rcases hd with h | h | h
       ·exact .inl (List.mem_of_mem_take h)
       ·exact .inr (List.eq_of_mem_replicate h)
       ·exact .inl (List.mem_of_mem_drop h)
      refine ⟨_, _, ρ, hrun, ⟨#[], rfl, trivial⟩, Ext.refl ρ, fun _ _ h => .inl h, ?_, hW.upd rfl rfl rfl (by rw [size_setRow]; exact Nat.le_refl _) (fun b hb => setRow_other _ _ _ _ (fun e => hgF (e ▸ hb)))⟩
      refine ⟨_, hB.upd (Ext.refl ρ) q (.row T'' 1 (l.take p0 ++ (List.replicate n' (D.lit ie.z .nil) ++ l.drop (p0 + n')))) [g0] [q] (fun r hr' => by obtain rfl := List.mem_singleton.1 hr'; exact ⟨_, hr⟩) ⟨_, hpq, ⟨_, [], [g0], [], rfl, rfl, ⟨rfl, rfl⟩, .inr ⟨g0, o0, cp, _, [], by rw [hll], rfl, hnew, by rw [hll]; exact hc1, hc2, ?_, ?_⟩⟩, fun d hd => ?_, fun d hd => ?_⟩ (by simp) (fun z hz => .inl ⟨q, by simp, by rw [e2, hb1]; exact hz⟩) hW.lt (fun z _ hz => setRow_other _ _ _ _ (fun e => hz q (by simp) (e ▸ hgB))) (fun r bq h => ?_)⟩
      ·simp only [List.size_toArray, List.length_append, htk, List.length_drop, List.length_replicate]; omega
      ·rw [hll, Nat.mul_one, List.toList_toArray, List.length_replicate, qs2 cur.toList (List.replicate n' ie.z) o0 p0 n' l.length (by simp) hfit0 (by omega), D.cat_append, D.cat_append]
       rw [Nat.mul_one] at hcat
       have q1 := ql2 (k := 1) (fun d hd => hlen d hd) (fun d hd => hl d hd) hcat (p := 0) (q := p0) (by omega) (by omega)
       have q3 := ql2 (k := 1) (fun d hd => hlen d hd) (fun d hd => hl d hd) hcat (p := p0 + n') (q := l.length) (by omega) (Nat.le_refl _)
       simp only [List.drop_zero, Nat.zero_mul, Nat.mul_one, Nat.sub_zero] at q1
       rw [List.take_of_length_le (Nat.le_refl _), Nat.mul_one, Nat.mul_one, List.take_of_length_le (by rw [List.length_drop, List.length_take, List.length_drop]; omega)] at q3
       exact (qbu _ _).2 ⟨_, _, [], [], rfl, rfl, qbo _ q1 (fun b hb => by cases hb), (qbu _ _).2 ⟨_, _, [], [], rfl, rfl, qq1 n', qbo _ q3 (fun b hb => by cases hb)⟩⟩
      ·rcases hmem d hd with h | rfl
       ·exact hlen d h
       ·rfl
      ·rcases hmem d hd with h | rfl
       ·exact hon d h
       ·exact ⟨hz', trivial⟩
      ·rcases qfi (u := []) h with h | ⟨h, _, h'⟩
       ·exact .inl h
       ·exact .inr ⟨h, by simpa using h, h'⟩
    ·cases he
   ·cases he
  ·cases he
 ·cases he
theorem qpn (htt : TTok P tt) {o : Oper} {T s : Nat} {x mx : Operand} {lo hi : Option Operand} (ho : o.op = .slice T x lo hi (some mx)) {e : Eff} (he : qmp tt t m s g T x lo hi mx = some e) (hob : All e.ob) (hs : ∀ r ∈ e.al, ρ r = none) (hg : GT g) (hA : ARel X ρ n t a) (hM : MRel X ρ w m) (hW : WRel X w) :
  Runs P X ρ w m e.al (execOp a.eval o) e.v e.wr := by
 unfold qmp at he
 split at he
 ·rename_i i r o1 hT hx
  split at he
  ·rename_i el hd
   split at he
   ·rename_i ie hE
    have hti := htt T i hT
    have hie := htt el ie hE
    have hu : P.underlying T = some (.slice el) := by rw [hti.und, hd]
    split at he
    ·rename_i T' k l hr
     split at he
     ·rename_i p o2 q o3 c o4 hk1 hk2 hlo hhi hmx
      obtain rfl := Option.some.inj he
      rw [qx, qx, qx, qx] at hob
      obtain ⟨ho1, ho2, ho3, ho4, h0, h1, h2', h2'', hso, hfl, _⟩ := hob
      have h2 : q <= l.length := by omega
      have gmx : ∃ k, a.eval mx = .int k c := by
       rcases qau hg hA hmx ho4 with ⟨h, _⟩ | ⟨y, k, h, hy⟩
       ·cases h
       ·obtain rfl := Option.some.inj h; exact ⟨k, hy⟩
      have ghi : ∃ y k, hi = some y /\ a.eval y = .int k q := by
       rcases qau hg hA hhi ho3 with ⟨h, _⟩ | h
       ·rw [h] at hso; cases hso
       ·exact h
      have : T' = el := by rw [← Nat.beq_eq]; exact hk1
      subst this
      have : k = ie.size := by rw [← Nat.beq_eq]; exact hk2
      subst this
      obtain ⟨B, hB⟩ := hM
      obtain ⟨hρx, _⟩ := qw hx ho1 hg hA
      obtain ⟨z, e1, hown, hlen, hon⟩ := hB.blk r _ hr
      rw [hρx] at e1
      obtain rfl := Option.some.inj e1
      have hnd := hB.nd r _ hr
      obtain ⟨v', vs', b1, b2, e1, e2, ⟨rfl, rfl⟩, hrow⟩ := hown
      obtain ⟨e3, _⟩ := List.cons.inj e1
      rw [List.append_nil] at e2
      have hl' : ∀ d ∈ (l.take q.toNat).drop p.toNat, d ∈ l := fun d hd => List.mem_of_mem_take (List.mem_of_mem_drop hd)
      have hln : ((l.take q.toNat).drop p.toNat).length = q.toNat - p.toNat := by rw [List.length_drop, List.length_take, Nat.min_eq_left (by omega)]
      rcases hrow with ⟨⟨a0, e4⟩, hn0, hc0, hb1⟩ | ⟨g0, o0, cap0, cur, b, e4, hb1, hcur, hc1, hc2, hfit, hcat⟩
      ·have hl0 : l = [] := List.length_eq_zero_iff.1 hn0
       subst hl0
       have hp : p = 0 := by simp at h2; omega
       have hq : q = 0 := by simp at h2; omega
       have hc0 : c = 0 := by simp at h2''; omega
       have hrun := qoe (w := w) (A := a0) (len := 0) (cap := 0) hu (jm hie.size) (qau hg hA hlo ho2) ghi gmx h0 h1 h2' (by omega)
       rw [hp, hq, hc0] at hrun; rw [hp, hq]
       refine qdi hB (u := [r]) (v := .slice a0 0 0) (bs := []) (w' := w) ?_ (hs s (by simp)) ⟨_, [], [], [], rfl, rfl, ⟨rfl, rfl⟩, .inl ⟨⟨a0, rfl⟩, by simp, by simp [D.cat], rfl⟩⟩ (by simp) (by simp) (by simp) (fun r' hr' => by obtain rfl := List.mem_singleton.1 hr'; exact ⟨_, hr⟩) (by simp) (fun _ _ _ => rfl) rfl rfl rfl (Nat.le_refl _) hW
       simp [execOp, ho, e3, e4, hrun]
      ·have hb : b = [] := qdw (w' := w) (qeo hfl) hcat
       subst hb
       have hrun := qoe (w := w) (A := some ⟨g0, o0, none⟩) (len := l.length) (cap := cap0) hu (jm hie.size) (qau hg hA hlo ho2) ghi gmx h0 h1 h2' (by omega)
       have hmid := ql2 hlen hfl hcat (p := p.toNat) (q := q.toNat) (by omega) (by omega)
       have hcl : cur.toList.length = cur.size := Array.length_toList
       by_cases hpc : c.toNat = p.toNat
       ·rw [if_pos hpc] at hrun
        have hq : q.toNat - p.toNat = 0 := by omega
        have hc : c.toNat - p.toNat = 0 := by omega
        have hnil : (l.take q.toNat).drop p.toNat = [] := List.length_eq_zero_iff.1 (hln.trans hq)
        rw [hq, hc] at hrun
        rw [hnil]
        refine qdi hB (u := [r]) (v := .slice (some ⟨g0, o0, none⟩) 0 0) (bs := []) (w' := w) ?_ (hs s (by simp)) ⟨_, [], [], [], rfl, rfl, ⟨rfl, rfl⟩, .inl ⟨⟨_, rfl⟩, rfl, rfl, rfl⟩⟩ (by simp) (by simp) (by simp) (fun r' hr' => by obtain rfl := List.mem_singleton.1 hr'; exact ⟨_, hr⟩) (by simp) (fun _ _ _ => rfl) rfl rfl rfl (Nat.le_refl _) hW
        simp [execOp, ho, e3, e4, hrun]
       ·rw [if_neg hpc] at hrun
        refine qdi hB (u := [r]) (v := .slice (some ⟨g0, o0 + p.toNat * ie.size, none⟩) (q.toNat - p.toNat) (c.toNat - p.toNat)) (bs := [g0]) (w' := w) ?_ (hs s (by simp)) ⟨_, [], [g0], [], rfl, rfl, ⟨rfl, rfl⟩, .inr ⟨g0, o0 + p.toNat * ie.size, c.toNat - p.toNat, cur, [], by rw [hln], rfl, hcur, by rw [hln]; omega, by omega, ?_, ?_⟩⟩ (fun d hd => hlen d (hl' d hd)) (fun d hd => hon d (hl' d hd)) (by simp) (fun r' hr' => by obtain rfl := List.mem_singleton.1 hr'; exact ⟨_, hr⟩) (fun y hy => .inl ⟨r, by simp, by rw [e2, hb1]; exact hy⟩) (fun _ _ _ => rfl) rfl rfl rfl (Nat.le_refl _) hW
        ·simp [execOp, ho, e3, e4, hrun, qey]
        ·have : (c.toNat - p.toNat) * ie.size = c.toNat * ie.size - p.toNat * ie.size := Nat.sub_mul _ _ _
         have : c.toNat * ie.size <= cap0 * ie.size := Nat.mul_le_mul_right _ (by omega)
         have : p.toNat * ie.size <= c.toNat * ie.size := Nat.mul_le_mul_right _ (by omega)
         omega
        ·rw [hln]
         have : min ((q.toNat - p.toNat) * ie.size) (l.length * ie.size - p.toNat * ie.size) = (q.toNat - p.toNat) * ie.size := by
          rw [← Nat.sub_mul]
          exact Nat.min_eq_left (Nat.mul_le_mul_right _ (by omega))
         have e5 : (((cur.toList.drop o0).take (l.length * ie.size)).drop (p.toNat * ie.size)).take ((q.toNat - p.toNat) * ie.size) = (cur.toList.drop (o0 + p.toNat * ie.size)).take ((q.toNat - p.toNat) * ie.size) := by
          rw [List.drop_take, List.take_take, List.drop_drop, this]
         rw [← e5]
         exact hmid
     ·cases he
    ·cases he
   ·cases he
  ·cases he
 ·cases he
theorem qwb {w : World} {T k l c : Nat} {z : D} {zc : List Value} {tail : Array Value} (hz : ∀ w, Own w z zc []) (hk : zc.length = k) (h0 : 0 < k) (hl : z.len = k) (hlc : l <= c) (hc : c <= maxLen) (ht : c * k <= l * k + tail.size) :
  Own (w.alloc (.cells (madeCells zc.toArray (l * k) ++ tail) T)) (rowC T k (List.replicate l z)) [.slice (some ⟨w.heap.size, 0, none⟩) l c] [w.heap.size] := by
 refine ⟨_, [], [w.heap.size], [], rfl, rfl, ⟨rfl, rfl⟩, Or.inr ⟨w.heap.size, 0, c, _, [], by rw [List.length_replicate], rfl, heap_alloc_new w _, by rw [List.length_replicate]; exact hlc, hc, by rw [Array.size_append, size_madeCells]; omega, ?_⟩⟩
 rw [List.drop_zero, List.length_replicate]
 refine qo5 (hz _) hk l _ (by rw [List.length_take, Array.length_toList, Array.size_append, size_madeCells]; omega) (fun j hj => ?_)
 rw [List.getElem?_take, if_pos hj, Array.toList_append, List.getElem?_append_left (by rw [Array.length_toList, size_madeCells]; exact hj), qo6 (by omega) (by omega), hk]
theorem qs3 (htt : TTok P tt) {o : Oper} {T T' s : Nat} {x y : Operand} (ho : ∃ c : Call, o.op = .call c /\ c.callee = .builtin .append /\ c.args.toList = [x, y] /\ c.argTypes.toList = [T, T']) {e : Eff} (he : qmq tt t s T T' x y = some e) (hob : All e.ob) (hs : ρ s = none) (hA : ARel X ρ n t a) (hM : MRel X ρ w m) (hW : WRel X w) :
  Runs P X ρ w m e.al (execOp a.eval o) e.v e.wr := by
 have hg0 : GT none := fun _ h => by cases h
 obtain ⟨⟨cal, args, argTypes⟩, ho, rfl, ha, hat⟩ := ho
 have ha' : args = #[x, y] := by rw [← Array.toList_inj]; exact ha
 have hat' : argTypes = #[T, T'] := by rw [← Array.toList_inj]; exact hat
 subst ha' hat'
 unfold qmq at he
 split at he
 ·rename_i i i' o1 k o2 hT hT' hx hy
  split at he
  ·rename_i el hd hd'
   split at he
   ·rename_i ie hE
    obtain rfl := Option.some.inj he
    rw [qx, qx] at hob
    obtain ⟨hox, hoy, h0, h1, hby, hsz, _⟩ := hob
    have hex := (qw hx hox hg0 hA).1
    have hey := (qw hy hoy hg0 hA).1
    have hti := htt T i hT
    have hti' := htt T' i' hT'
    have hie := htt el ie hE
    obtain ⟨j, hj, hz, hjs, hjb⟩ := hie.parts
    obtain ⟨q, rfl⟩ := Int.eq_ofNat_of_zero_le (show 0 <= k by omega)
    have hbytes : q * j.bytes <= 1048576 * 1000 := by rw [hjb]; exact Nat.mul_le_mul (by omega) hby
    obtain ⟨B, hB⟩ := hM
    have hzs : ie.z.cells.toList.length = ie.size := by rw [Array.length_toList]; exact hie.zs
    have hz0 : ie.z.cells.size = ie.size := hie.zs
    have hr := Lib.run_append_grow_zeros (P := P) w T T' o.type el j ie.z .i64 .i64 (by rw [hti.und, hd]) (by rw [hti'.und, hd']) hj hz none 0 0 [] (run_firstCells_none w.drew j.size 0 0 0) q (by omega) (by omega) (by omega) (by omega) (by omega) (growslice_fits (by omega) (by rw [Nat.zero_add]; omega))
    rw [Nat.zero_add] at hr
    have hG := grownCap_ge w q 0 el
    have hGm := grownCap_le_maxLen w q 0 el (by unfold maxLen; omega)
    generalize grownCap w q 0 el = G at hr hG hGm
    have hGk : G * ie.size = q * ie.size + (G - q) * ie.size := by rw [← Nat.add_mul]; congr 1; omega
    have hown := qwb (w := w.drew) (T := el) (l := q) (c := G) (z := dOf ie.z.cells.toList) (tail := Builtin.zeroCells ie.z.cells (G - q)) (fun w => ql1 w _) hzs hsz (by rw [qh3, hzs]) hG hGm (by rw [size_zeroCells, hz0, hGk]; exact Nat.le_refl _)
    rw [Array.toArray_toList] at hown
    have hcells : (#[] : Array Value) ++ Builtin.zeroCells ie.z.cells q ++ Builtin.zeroCells ie.z.cells (G - q) = madeCells ie.z.cells (q * ie.size) ++ Builtin.zeroCells ie.z.cells (G - q) := by
     rw [Array.empty_append]
     congr 1
     unfold Builtin.zeroCells madeCells
     rw [hz0]
    rw [show (([] : List Value).toArray) = #[] from rfl, hcells] at hr
    rw [Int.toNat_natCast]
    refine qdi (u := []) hB (v := .slice (some ⟨w.heap.size, 0, none⟩) q G) (w' := w.drew.alloc (.cells (madeCells ie.z.cells (q * ie.size) ++ Builtin.zeroCells ie.z.cells (G - q)) el)) ?_ hs hown ?_ ?_ (by simp) (fun _ h => by cases h) (fun x h => .inr (by simp at h; omega)) (fun x h _ => Below.heap_alloc w.drew _ _ h) rfl rfl rfl (by simp) hW
    ·simp [execOp, ho, resolve, invoke, builtin, hex, hey, hr]
    ·intro d hd'; rw [List.eq_of_mem_replicate hd', qh3, hzs]
    ·intro d hd'; rw [List.eq_of_mem_replicate hd']; exact qji (fun v hv => (List.all_eq_true.1 hie.z1) v hv)
   ·cases he
  ·cases he
 ·cases he
theorem qwc (htt : TTok P tt) {o : Oper} {T : Nat} {x : Operand} (ho : ∃ c : Call, o.op = .call c /\ c.callee = .builtin .cap /\ c.args.toList = [x] /\ c.argTypes.toList = [T]) {e : Eff} (he : qpe tt t g T x = some e) (hob : All e.ob) (hg : GT g) (hA : ARel X ρ n t a) (hM : MRel X ρ w m) (hW : WRel X w) :
  Runs P X ρ w m e.al (execOp a.eval o) e.v e.wr := by
 obtain ⟨⟨cal, args, argTypes⟩, ho, rfl, ha, hat⟩ := ho
 have ha' : args = #[x] := by rw [← Array.toList_inj]; exact ha
 have hat' : argTypes = #[T] := by rw [← Array.toList_inj]; exact hat
 subst ha' hat'
 unfold qpe at he
 split at he
 ·rename_i i o1 hT hx
  split at he
  ·rename_i el hd
   have hti := htt T i hT
   have hu := run_underlying hti.und w
   rw [hd] at hu
   refine jl (x := .int .i64 0) he hob hg hM hW (fun g1 _ => ?_)
   have hex := (qw hx g1 hg hA).1
   exact ⟨by simp [execOp, ho, resolve, invoke, builtin, Builtin.cap_, hex, hu, goInt], rfl, rfl⟩
  ·cases he
 ·cases he
theorem qpo (htt : TTok P tt) {o : Oper} {T s : Nat} {x y : Operand} {inp : Inp} (ho : ∃ c : Call, o.op = .call c /\ c.callee = .builtin .append /\ c.args.toList = [x, y] /\ c.argTypes.toList = [T, T]) {e : Eff} (he : qhb tt t m s inp T x y = some e) (hob : All e.ob) (hs : ρ s = none) (hA : ARel X ρ n t a) (hM : MRel X ρ w m) (hW : WRel X w) :
  Runs P X ρ w m e.al (execOp a.eval o) e.v e.wr := by
 have hg0 : GT none := fun _ h => by cases h
 obtain ⟨⟨cal, args, argTypes⟩, ho, rfl, ha, hat⟩ := ho
 have ha' : args = #[x, y] := by rw [← Array.toList_inj]; exact ha
 have hat' : argTypes = #[T, T] := by rw [← Array.toList_inj]; exact hat
 subst ha' hat'
 unfold qhb at he
 split at he
 ·rename_i i v o1 u o2 hT hx hy
  split at he
  ·rename_i el hd
   split at he
   ·rename_i ie hE
    split at he
    ·rename_i r1 l1 hr1
     have hti := htt T i hT
     have hie := htt el ie hE
     obtain ⟨B, hB⟩ := hM
     split at he
     ·rename_i l
      split at he
      ·rename_i T' k n' c
       split at he
       ·rename_i hk
        obtain rfl := Option.some.inj he
        rw [qx, qx] at hob
        obtain ⟨hox, hoy, rfl, rfl, hfl, hlen, hby, hsz, _⟩ := hob
        have : k = ie.size := by rw [← Nat.beq_eq]; exact hk
        subst this
        obtain ⟨b1, q1, q2, q3, q4, q5, q6⟩ := qdo hB hr1 (qw hx hox hg0 hA)
        have hown2 : RdO X.w0 X.F (.row T' ie.size l.length (D.cat l) .nil) [a.eval y] := qw hy hoy hg0 hA
        have hnow := qkh hW hown2
        obtain ⟨A, cap, hey⟩ := qgq hown2
        rw [hey] at hnow
        obtain ⟨us2, hc2, hus1, hcell⟩ := qod (fun d hd => (hfl d hd).2) hnow
        obtain ⟨v', w', bs, hr, g1, g2, g3, g4, g5, g6, g7, g8⟩ := qhk (P := P) (ty := o.type) hti hie hd hby hsz q1 q2 q4 (x := a.eval y) hey hc2 (fun d hd => (hfl d hd).1) hus1 (by simp) (by simp) hcell hlen
        rw [qan]
        refine qdi hB (v := v') (w' := w') ?_ hs g1 (fun d hd => ?_) (fun d hd => ?_) g2 q5 (fun z hz => ?_) (fun z hz hz2 => g4 z hz (fun hb => ?_)) g5 g6 g7 g8 hW
        ·simp [execOp, ho, resolve, invoke, builtin, hr]
        ·rw [List.mem_append] at hd; exact hd.elim (q2 d) (fun h => (hfl d h).1)
        ·rw [List.mem_append] at hd; exact hd.elim (q3 d) (fun h => qkl (hfl d h).2)
        ·rcases g3 z hz with h | h | h
         ·exact .inl (q6 z h)
         ·cases h
         ·exact .inr h
        ·obtain ⟨r, h1, h2⟩ := q6 z hb; exact hz2 r h1 h2
       ·cases he
      ·cases he
     ·split at he
      ·rename_i r2 l2 hr2
       split at he
       ·rename_i hdis
        obtain rfl := Option.some.inj he
        rw [qx, qx] at hob
        obtain ⟨hox, hoy, hfl, hlen, hby, hsz, _⟩ := hob
        obtain ⟨b1, q1, q2, q3, q4, q5, q6⟩ := qdo hB hr1 (qw hx hox hg0 hA)
        obtain ⟨b2, p1, p2, p3, p4, p5, p6⟩ := qdo hB hr2 (qw hy hoy hg0 hA)
        have hd12 := qax hdis
        have hbd : ∀ z ∈ b1, z ∉ b2 := by
         intro z h1 h2
         obtain ⟨ra, k1, k2⟩ := q6 z h1
         obtain ⟨rb, k3, k4⟩ := p6 z h2
         obtain ⟨_, k5⟩ := q5 ra k1
         obtain ⟨_, k6⟩ := p5 rb k3
         exact hB.dj ra rb _ _ (fun e => hd12 ra k1 (e ▸ k3)) k5 k6 z k2 k4
        obtain ⟨A, cap, hey⟩ := qfh p1
        have p1' := p1
        rw [hey] at p1'
        obtain ⟨v0, vs0, z1, z2, f1, f2, ⟨rfl, rfl⟩, f4⟩ := p1'
        obtain ⟨f1, _⟩ := List.cons.inj f1
        rw [List.append_nil] at f2
        subst f2
        obtain ⟨us2, c2, hc2, hsub2, hnd2, hcell⟩ : ∃ us2 c2, Own w (D.cat l2) us2 c2 /\ (∀ z ∈ c2, z ∈ b2) /\ c2.Nodup /\ ((A = none /\ l2.length = 0) ∨ ∃ ad, A = some ad /\ ∀ j u, us2[j]? = some u -> w.cell? (ad.add j) = some u) := by
         rcases f4 with ⟨⟨a0, h3⟩, h4, h5, h6⟩ | ⟨g, o', c, cur, b, h3, h4, hcur, hnc, hmc, hsc, hown⟩
         ·refine ⟨[], [], by rw [h5]; exact ⟨rfl, rfl⟩, by simp, by simp, ?_⟩
          cases A with
          | none => exact .inl ⟨rfl, h4⟩
          | some ad => exact .inr ⟨ad, rfl, by simp⟩
         ·rw [← f1, Value.slice.injEq] at h3
          rw [h4] at p4 ⊢
          refine ⟨_, b, hown, fun z hz => by simp [hz], (List.nodup_cons.1 p4).2, .inr ⟨_, h3.1, fun j u hu => ?_⟩⟩
          rw [qey, cell_of_block hcur]
          rw [List.getElem?_take] at hu
          split at hu
          ·rw [List.getElem?_drop] at hu; simpa using hu
          ·cases hu
        obtain rfl : c2 = [] := qdw (w' := w) (qeo hfl) hc2
        obtain ⟨v', w', bs, hr, g1, g2, g3, g4, g5, g6, g7, g8⟩ := qhk (P := P) (ty := o.type) hti hie hd hby hsz q1 q2 q4 (x := a.eval y) hey hc2 p2 (qjk (qjj p3) hc2) hnd2 (fun z hz h2 => hbd z hz (hsub2 z h2)) hcell hlen
        rw [qan, qan]
        refine qdi hB (v := v') (w' := w') ?_ hs g1 (fun d hd => ?_) (fun d hd => ?_) g2 (fun r hr => ?_) (fun z hz => ?_) (fun z hz hz2 => g4 z hz (fun hb => ?_)) g5 g6 g7 g8 hW
        ·simp [execOp, ho, resolve, invoke, builtin, hr]
        ·rw [List.mem_append] at hd; exact hd.elim (q2 d) (p2 d)
        ·rw [List.mem_append] at hd; exact hd.elim (q3 d) (p3 d)
        ·exact q5 r hr
        ·rcases g3 z hz with h | h | h
         ·exact .inl (q6 z h)
         ·cases h
         ·exact .inr h
        ·obtain ⟨r, h1, h2⟩ := q6 z hb; exact hz2 r h1 h2
       ·cases he
      ·cases he
     ·split at he
      ·rename_i r2 l2 hr2
       split at he
       ·rename_i hdis
        obtain rfl := Option.some.inj he
        rw [qx, qx] at hob
        obtain ⟨hox, hoy, hlen, hby, hsz, _⟩ := hob
        obtain ⟨b1, q1, q2, q3, q4, q5, q6⟩ := qdo hB hr1 (qw hx hox hg0 hA)
        obtain ⟨b2, p1, p2, p3, p4, p5, p6⟩ := qdo hB hr2 (qw hy hoy hg0 hA)
        have hd12 := qax hdis
        have hbd : ∀ z ∈ b1, z ∉ b2 := by
         intro z h1 h2
         obtain ⟨ra, k1, k2⟩ := q6 z h1
         obtain ⟨rb, k3, k4⟩ := p6 z h2
         obtain ⟨_, k5⟩ := q5 ra k1
         obtain ⟨_, k6⟩ := p5 rb k3
         exact hB.dj ra rb _ _ (fun e => hd12 ra k1 (e ▸ k3)) k5 k6 z k2 k4
        obtain ⟨A, cap, hey⟩ := qfh p1
        have p1' := p1
        rw [hey] at p1'
        obtain ⟨v0, vs0, z1, z2, f1, f2, ⟨rfl, rfl⟩, f4⟩ := p1'
        obtain ⟨f1, _⟩ := List.cons.inj f1
        rw [List.append_nil] at f2
        subst f2
        obtain ⟨us2, c2, hc2, hsub2, hnd2, hcell⟩ : ∃ us2 c2, Own w (D.cat l2) us2 c2 /\ (∀ z ∈ c2, z ∈ b2) /\ c2.Nodup /\ ((A = none /\ l2.length = 0) ∨ ∃ ad, A = some ad /\ ∀ j u, us2[j]? = some u -> w.cell? (ad.add j) = some u) := by
         rcases f4 with ⟨⟨a0, h3⟩, h4, h5, h6⟩ | ⟨g, o', c, cur, b, h3, h4, hcur, hnc, hmc, hsc, hown⟩
         ·refine ⟨[], [], by rw [h5]; exact ⟨rfl, rfl⟩, by simp, by simp, ?_⟩
          cases A with
          | none => exact .inl ⟨rfl, h4⟩
          | some ad => exact .inr ⟨ad, rfl, by simp⟩
         ·rw [← f1, Value.slice.injEq] at h3
          rw [h4] at p4 ⊢
          refine ⟨_, b, hown, fun z hz => by simp [hz], (List.nodup_cons.1 p4).2, .inr ⟨_, h3.1, fun j u hu => ?_⟩⟩
          rw [qey, cell_of_block hcur]
          rw [List.getElem?_take] at hu
          split at hu
          ·rw [List.getElem?_drop] at hu; simpa using hu
          ·cases hu
        obtain ⟨v', w', bs, hr, g1, g2, g3, g4, g5, g6, g7, g8⟩ := qhk (P := P) (ty := o.type) hti hie hd hby hsz q1 q2 q4 (x := a.eval y) hey hc2 p2 (qjk (qjj p3) hc2) hnd2 (fun z hz h2 => hbd z hz (hsub2 z h2)) hcell hlen
        rw [qan, qan]
        refine qdi hB (v := v') (w' := w') ?_ hs g1 (fun d hd => ?_) (fun d hd => ?_) g2 (fun r hr => ?_) (fun z hz => ?_) (fun z hz hz2 => g4 z hz (fun hb => ?_)) g5 g6 g7 g8 hW
        ·simp [execOp, ho, resolve, invoke, builtin, hr]
        ·rw [List.mem_append] at hd; exact hd.elim (q2 d) (p2 d)
        ·rw [List.mem_append] at hd; exact hd.elim (q3 d) (p3 d)
        ·rw [List.mem_append] at hr; exact hr.elim (q5 r) (p5 r)
        ·rcases g3 z hz with h | h | h
         ·obtain ⟨r, h1, h2⟩ := q6 z h; exact .inl ⟨r, by simp [h1], h2⟩
         ·obtain ⟨r, h1, h2⟩ := p6 z (hsub2 z h); exact .inl ⟨r, by simp [h1], h2⟩
         ·exact .inr h
        ·obtain ⟨r, h1, h2⟩ := q6 z hb; exact hz2 r (by simp [h1]) h2
       ·cases he
      ·cases he
    ·cases he
   ·cases he
  ·cases he
 ·cases he
end
end Eng
end Go.Proofs.YtfiofmaknndpcaaGreatDoor

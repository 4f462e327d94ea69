/- SplitFields: the fields of a line as lists of bytes; the step that appends a field. -/
import Derived.Test.YtjgolnmbnkgbdaaDoorOwn
import Derived.Test.YtjgolnmbnkgbdaaDoorShelf
import Derived.Deep.AppendLies
namespace Go.Proofs.YtjgolnmbnkgbdaaDoor
open Go.RowKit
namespace Spl
open Own
/-- strings as cells -/
def strs (l : List (List UInt8)) : List Value := l.map fun b => Value.string ⟨b.toArray⟩
theorem strs_length (l : List (List UInt8)) : (strs l).length = l.length := by simp [strs]
theorem strs_append (a b : List (List UInt8)) : strs (a ++ b) = strs a ++ strs b := by simp [strs]
/-- the bytes from place a to place b -/
def sub (s : ByteArray) (a b : Nat) : List UInt8 := (s.data.toList.drop a).take (b - a)
/-- where the field that place i belongs to begins -/
def st (s : ByteArray) : Nat → Nat
  | 0 => 0
  | i + 1 => if (s.data.toList.getD i 0).toNat = 32 then i + 1 else st s i
/-- the fields that end ahead of place i -/
def fs (s : ByteArray) : Nat → List (List UInt8)
  | 0 => []
  | i + 1 => if (s.data.toList.getD i 0).toNat = 32 then (if st s i < i then fs s i ++ [sub s (st s i) i] else fs s i) else fs s i
theorem st_le (s : ByteArray) : ∀ i, st s i ≤ i
  | 0 => Nat.le_refl _
  | i + 1 => by unfold st; split; · omega
                · have := st_le s i; omega
def fin (s : ByteArray) : List (List UInt8) := if st s s.size < s.size then fs s s.size ++ [sub s (st s s.size) s.size] else fs s s.size
def okAt (s : ByteArray) (i : Nat) : Prop := 32 ≤ (s.data.toList.getD i 0).toNat ∧ (s.data.toList.getD i 0).toNat ≤ 126
theorem fs_len (s : ByteArray) : ∀ i, (fs s i).length ≤ i
  | 0 => Nat.le_refl _
  | i + 1 => by
    have := fs_len s i
    unfold fs
    split
    · split
      · simp; omega
      · omega
    · omega
theorem fin_len (s : ByteArray) : (fin s).length ≤ s.size + 1 := by
  have := fs_len s s.size
  unfold fin; split
  · simp; omega
  · omega

/-- what SplitFields returns -/
def RetF (s : ByteArray) (w : World) (e : Ending) (w' : World) : Prop :=
  ∃ (v : Value) (l : List (List UInt8)) (b : Bool), e = .returned (.tuple #[v, .bool b]) ∧ w'.ownsRow w.heap.size 9 1 v l.length (strs l) ∧ Below w.heap.size w w' ∧
    ((s.size ≤ 600 ∧ (∀ i, i < s.size → okAt s i) ∧ (fin s).length ≤ 24 ∧ l = fin s ∧ b = true) ∨ (¬ (s.size ≤ 600 ∧ (∀ i, i < s.size → okAt s i) ∧ (fin s).length ≤ 24) ∧ l = [] ∧ b = false))
theorem RetF.one (s : ByteArray) : ∃ (l : List (List UInt8)) (b : Bool), l.length ≤ 24 ∧ ∀ w e w', RetF s w e w' → ∃ v, e = .returned (.tuple #[v, .bool b]) ∧ w'.ownsRow w.heap.size 9 1 v l.length (strs l) ∧ Below w.heap.size w w' := by
  by_cases h : s.size ≤ 600 ∧ (∀ i, i < s.size → okAt s i) ∧ (fin s).length ≤ 24
  · refine ⟨fin s, true, h.2.2, ?_⟩
    rintro w e w' ⟨v, l, b, rfl, ho, hb, ⟨_, _, _, rfl, rfl⟩ | ⟨hn, _⟩⟩
    · exact ⟨v, rfl, ho, hb⟩
    · exact absurd h hn
  · refine ⟨[], false, by simp, ?_⟩
    rintro w e w' ⟨v, l, b, rfl, ho, hb, ⟨h1, h2, h3, _⟩ | ⟨_, rfl, rfl⟩⟩
    · exact absurd ⟨h1, h2, h3⟩ h
    · exact ⟨v, rfl, ho, hb⟩
theorem RetF.no {s : ByteArray} {v : Value} {w w' : World} (h : ¬ (s.size ≤ 600 ∧ (∀ i, i < s.size → okAt s i) ∧ (fin s).length ≤ 24)) (hb : Below w.heap.size w w') (ho : w'.ownsRow w.heap.size 9 1 v 0 []) :
    RetF s w (.returned (.tuple #[v, .bool false])) w' := ⟨v, [], false, rfl, ho, hb, .inr ⟨h, rfl, rfl⟩⟩
theorem RetF.yes {s : ByteArray} {v : Value} {w w' : World} (h1 : s.size ≤ 600) (h2 : ∀ i, i < s.size → okAt s i) (h3 : (fin s).length ≤ 24) (hb : Below w.heap.size w w') (ho : w'.ownsRow w.heap.size 9 1 v (fin s).length (strs (fin s))) :
    RetF s w (.returned (.tuple #[v, .bool true])) w' := ⟨v, _, true, rfl, ho, hb, .inl ⟨h1, h2, h3, rfl, rfl⟩⟩

theorem info_str : (Tryd.prog.info? 9).map (fun i => (i.zero, i.size, i.bytes)) = some (some (.string ⟨#[]⟩), 1, 16) := by kernel_rfl

def CloneP (s : ByteArray) (w : World) (e : Ending) (w' : World) : Prop := e = .returned (.string s) ∧ Below w.heap.size w w'
theorem clone (s : ByteArray) (w : World) (h : s.size ≤ 281474976710656) : Calls Tryd.prog 39 #[.string s] w (CloneP s w) := by
  go_enter Tryd.func39, Tryd.ntmps39
  go_wp2_with fail
  refine (Tryd.stringslite_Clone s w h).mono ?_
  rintro e w1 ⟨rfl, hb⟩
  have HB := Lib.hid hb; clear hb
  go_wp2
  go_ret
  exact ⟨rfl, HB.out⟩

def AddP (base : Nat) (v : Value) (l : List (List UInt8)) (w : World) (e : Ending) (w' : World) : Prop :=
  ∃ v', e = .returned v' ∧ w'.ownsRow base 9 1 v' l.length (strs l) ∧ w.grownBy w' v.ownBlock
theorem add_none (base : Nat) (v : Value) (l : List (List UInt8)) (w : World) (ho : w.ownsRow base 9 1 v l.length (strs l)) :
    Calls Tryd.prog 31 #[v, .string ⟨#[]⟩] w (AddP base v l w) := by
  have HO := Lib.hid ho; clear ho
  go_enter Tryd.func31, Tryd.ntmps31
  go_wp2
  go_ret
  exact ⟨v, rfl, HO.out, ⟨rfl, rfl, rfl, Nat.le_refl _, fun _ _ _ => rfl⟩⟩
theorem grown_both {w w1 w2 : World} {r : Option Nat} (h : Below w.heap.size w w1) (h2 : w1.grownBy w2 r) : w.grownBy w2 r :=
  ⟨h2.os.trans h.os, h2.tape.trans h.tape, h2.output.trans h.output, Nat.le_trans h.size h2.size, fun k hk hr => (h2.block k (Nat.lt_of_lt_of_le hk h.size) hr).trans (h.block k hk)⟩
theorem add_some (base : Nat) (v : Value) (l : List (List UInt8)) (f : ByteArray) (w : World) (ho : w.ownsRow base 9 1 v l.length (strs l)) (hb : base ≤ w.heap.size) (hf : f.size ≤ 281474976710656) (hne : 0 < f.size) (hl : l.length ≤ 1000000) :
    Calls Tryd.prog 31 #[v, .string f] w (AddP base v (l ++ [f.data.toList]) w) := by
  have HO := Lib.hid ho
  have HF := Lib.hid hf; clear hf
  have hemp : f.toList.isEmpty = false := by
    rw [ByteArray.toList_eq]
    cases hd : f.data.toList with
    | nil => have : f.size = 0 := by show f.data.size = 0; rw [← Array.length_toList, hd]; rfl
             omega
    | cons a r => rfl
  have hemp2 : (f.toList == []) = false := by
    cases hd : f.toList with
    | nil => rw [hd] at hemp; simp at hemp
    | cons a r => rfl
  have HL : Hid (∀ w1 : World, Below w.heap.size w w1 → w1.ownsRow base 9 1 v l.length (strs l)) := fun w1 h =>
    ho.kept (row := none) ⟨h.os, h.tape, h.output, h.size, fun k hk _ => h.block k hk⟩ (by cases hv : v.ownBlock <;> simp)
  clear ho
  obtain ⟨i0, hi, hz0, hz1, hz2⟩ := info_parts info_str
  go_enter Tryd.func31, Tryd.ntmps31
  go_wp2_with fail
  refine (clone f w HF.out).mono ?_
  rintro e w1 ⟨rfl, hb1⟩
  have HB1 := Lib.hid hb1; clear hb1
  have HO1 := Lib.hid (HL.out w1 HB1.out)
  go_wp2_with (at_builtin; refine wpList_append_own _ rfl (.tmp 8) (.tmp 11) 31 rfl base 9 i0 (.string ⟨#[]⟩) 1 16 Tryd.underlying31 hi hz0 hz1 hz2 rfl (by decide) v l.length _ rfl (HO1.out.alloc _) ⟨w1.heap.size, 0, none⟩ 1 1 [_] rfl rfl (World.news_of_block (cs := #[_]) (heap_alloc_new w1 _)) (by simp [Value.oneCell']) (by unfold maxLen; omega) (by omega) (by simp; have := HB1.out.size; omega) ?_; intro v2 w2 ho2 hg2 _)
  have HO2 : Hid (w2.ownsRow base 9 1 v2 (l ++ [f.data.toList]).length (strs (l ++ [f.data.toList]))) := by
    show World.ownsRow _ _ _ _ _ _ _
    rw [strs_append, List.length_append]; exact ho2
  have HG2 := Lib.hid (grown_both (HB1.out.alloc HB1.out.size _) hg2)
  clear ho2 hg2
  go_wp2
  go_ret
  exact ⟨v2, rfl, HO2.out, HG2.out⟩
end Spl
end Go.Proofs.YtjgolnmbnkgbdaaDoor

/- Page tables: what the chapter says. No program. -/
import Derived.Test.YtkcoejodhdnoiaaMod
import Derived.Test.YtkcoejodhdnoiaaListMore
import Derived.Test.YtkcoejodhdnoiaaTreeOps
namespace Go.Proofs.Ytkcoejodhdnoiaa
open Go.RowKit
namespace Tr
def pMappedPages (t : GTable) : Int := ((t.Entries.countP (fun e => e.Mode != 0) : Nat) : Int)
/-- an entry of a table over so many frames -/
def okE (frames : Int) (e : GEntry) : Prop := (e.Mode = 0 ∧ e.Frame = 0) ∨ ((e.Mode = 1 ∨ e.Mode = 2) ∧ 0 ≤ e.Frame ∧ e.Frame < frames)
instance (frames : Int) (e : GEntry) : Decidable (okE frames e) := by unfold okE; infer_instance
def pTableOk (t : GTable) (frames : Int) : Bool := decide ((∀ e ∈ t.Entries, okE frames e) ∧ 1 ≤ t.Entries.length ∧ t.Entries.length ≤ 32)
def okSet (t : GTable) (page : Int) (e : GEntry) : Prop := (0 ≤ page ∧ page < t.Entries.length) ∧ ((e.Mode = 0 ∧ e.Frame = 0) ∨ ((e.Mode = 1 ∨ e.Mode = 2) ∧ 0 ≤ e.Frame))
instance (t : GTable) (page : Int) (e : GEntry) : Decidable (okSet t page e) := by unfold okSet; infer_instance
def pSetPage (t : GTable) (page : Int) (e : GEntry) : GTable × Bool := if okSet t page e then (⟨t.Entries.set page.toNat e⟩, true) else (t, false)
def pPageEntry (t : GTable) (page : Int) : GEntry := if 0 ≤ page ∧ page < t.Entries.length then t.Entries.getD page.toNat ⟨0, 0⟩ else ⟨0, 0⟩
def onFrame (frame : Int) : Nat → List GEntry → List Int
  | _, [] => []
  | i, e :: l => (if e.Mode ≠ 0 ∧ e.Frame = frame then [(i : Int)] else []) ++ onFrame frame (i + 1) l
def pPagesOn (t : GTable) (frame : Int) : List Int := onFrame frame 0 t.Entries
theorem onFrame_append (f : Int) : ∀ (i : Nat) (a b : List GEntry), onFrame f i (a ++ b) = onFrame f i a ++ onFrame f (i + a.length) b
  | i, [], b => by simp [onFrame]
  | i, e :: a, b => by
    show _ ++ onFrame f (i + 1) (a ++ b) = (_ ++ onFrame f (i + 1) a) ++ _
    rw [onFrame_append f (i + 1) a b, List.append_assoc, List.length_cons, show i + 1 + a.length = i + (a.length + 1) by omega]
theorem onFrame_take (f : Int) (l : List GEntry) (i : Nat) (x : GEntry) (h : l[i]? = some x) : onFrame f 0 (l.take (i + 1)) = onFrame f 0 (l.take i) ++ (if x.Mode ≠ 0 ∧ x.Frame = f then [(i : Int)] else []) := by
  have hi : i < l.length := (List.getElem?_eq_some_iff.1 h).1
  rw [List.take_add_one, h, onFrame_append, List.length_take, Nat.min_eq_left (by omega), Nat.zero_add]
  show _ ++ (_ ++ []) = _
  rw [List.append_nil]
theorem onFrame_len (f : Int) : ∀ (i : Nat) (l : List GEntry), (onFrame f i l).length ≤ l.length
  | _, [] => Nat.le_refl _
  | i, e :: l => by
    show (_ ++ onFrame f (i + 1) l).length ≤ l.length + 1
    have := onFrame_len f (i + 1) l
    rw [List.length_append]
    split <;> simp <;> omega
def pTableNew (pages : Int) : GTable × Bool := if 1 ≤ pages ∧ pages ≤ 32 then (⟨List.replicate pages.toNat ⟨0, 0⟩⟩, true) else (⟨[]⟩, false)
end Tr
end Go.Proofs.Ytkcoejodhdnoiaa

/- Physical frames: what the chapter says. No program. -/
import Derived.Test.YtkcoejodhdnoiaaMod
import Derived.Test.YtkcoejodhdnoiaaListMore
namespace Go.Proofs.Ytkcoejodhdnoiaa
open Go.RowKit
set_option linter.unusedVariables false
namespace Tr
def okV (u : Bool) (v : Int) : Prop := (0 ≤ v ∧ v ≤ 999) ∧ (u = true ∨ v = 0)
instance (u : Bool) (v : Int) : Decidable (okV u v) := by unfold okV; infer_instance
def okRow (u : Bool) (r : List Int) : Prop := r.length = 16 ∧ ∀ v ∈ r, okV u v
instance (u : Bool) (r : List Int) : Decidable (okRow u r) := by unfold okRow; infer_instance
def okF (f : GFrames) : Prop := (1 ≤ f.Cells.length ∧ f.Cells.length ≤ 32) ∧ f.Used.length = f.Cells.length ∧ ∀ p ∈ f.Cells.zip f.Used, okRow p.2 p.1
instance (f : GFrames) : Decidable (okF f) := by unfold okF; infer_instance
def pFramesOk (f : GFrames) : Bool := decide (okF f)
theorem zip_at {α β : Type} {l : List α} {m : List β} {i : Nat} {x : α} {y : β} (hx : l[i]? = some x) (hy : m[i]? = some y) : (l.zip m)[i]? = some (x, y) := List.getElem?_zip_eq_some.2 ⟨hx, hy⟩
/-- the first frame that is not used -/
def freeAt : Nat → List Bool → Int
  | _, [] => -1
  | i, u :: l => if u then freeAt (i + 1) l else (i : Int)
def pFree (f : GFrames) : Int := freeAt 0 f.Used
theorem freeAt_skip : ∀ (i : Nat) (a b : List Bool), (∀ u ∈ a, u = true) → freeAt i (a ++ b) = freeAt (i + a.length) b
  | _, [], _, _ => rfl
  | i, u :: a, b, h => by
    have hu := h u (by simp)
    subst hu
    show freeAt (i + 1) (a ++ b) = _
    rw [freeAt_skip (i + 1) a b (fun v hv => h v (by simp [hv])), List.length_cons, show i + 1 + a.length = i + (a.length + 1) by omega]
theorem freeAt_hit (l : List Bool) (i : Nat) (h : l[i]? = some false) (ha : ∀ u ∈ l.take i, u = true) : freeAt 0 l = (i : Int) := by
  have hi : i < l.length := (List.getElem?_eq_some_iff.1 h).1
  have e : l = l.take i ++ (false :: l.drop (i + 1)) := by
    have h1 : l.drop i = false :: l.drop (i + 1) := by
      rw [List.drop_eq_getElem_cons hi]
      rw [List.getElem?_eq_getElem hi] at h
      rw [Option.some.inj h]
    rw [← h1, List.take_append_drop]
  rw [e, freeAt_skip 0 _ _ ha, List.length_take, Nat.min_eq_left (by omega), Nat.zero_add]
  rfl
theorem freeAt_none (l : List Bool) (ha : ∀ u ∈ l, u = true) : freeAt 0 l = -1 := by
  have := freeAt_skip 0 l [] ha
  rw [List.append_nil] at this
  rw [this]; rfl
/-- frame i of valid frames is used -/
def isUsed (f : GFrames) (i : Int) : Prop := okF f ∧ (0 ≤ i ∧ i < f.Used.length) ∧ f.Used[i.toNat]? = some true
instance (f : GFrames) (i : Int) : Decidable (isUsed f i) := by unfold isUsed; infer_instance
def pUsedFrames (f : GFrames) : Int := if okF f then ((f.Used.countP (fun u => u) : Nat) : Int) else 0
def pFrameRead (f : GFrames) (i at_ : Int) : Int × Bool := if isUsed f i ∧ 0 ≤ at_ ∧ at_ ≤ 15 then (((f.Cells.getD i.toNat []).getD at_.toNat 0), true) else (0, false)
def pFrameTake (f : GFrames) : GFrames × Int × Bool := if okF f ∧ 0 ≤ pFree f then (⟨f.Cells, f.Used.set (pFree f).toNat true⟩, pFree f, true) else (f, -1, false)
def pFrameGive (f : GFrames) (i : Int) : GFrames × Bool := if isUsed f i then (⟨f.Cells.set i.toNat (List.replicate 16 0), f.Used.set i.toNat false⟩, true) else (f, false)
def pFrameWrite (f : GFrames) (i at_ v : Int) : GFrames × Bool := if isUsed f i ∧ (0 ≤ at_ ∧ at_ ≤ 15) ∧ 0 ≤ v ∧ v ≤ 999 then (⟨f.Cells.set i.toNat ((f.Cells.getD i.toNat []).set at_.toNat v), f.Used⟩, true) else (f, false)
def pFramesNew (n : Int) : GFrames × Bool := if 1 ≤ n ∧ n ≤ 32 then (⟨List.replicate n.toNat (List.replicate 16 0), List.replicate n.toNat false⟩, true) else (⟨[], []⟩, false)
end Tr
end Go.Proofs.Ytkcoejodhdnoiaa

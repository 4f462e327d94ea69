/- The machine: what the chapter says. No program. -/
import Derived.Test.YtkcoejodhdnoiaaM05
import Derived.Test.YtkcoejodhdnoiaaM06
namespace Go.Proofs.Ytkcoejodhdnoiaa
open Go.RowKit
set_option linter.unusedVariables false
namespace Tr
/-- the used frames are exactly those to which pages are mapped -/
def usedAre (m : GMachine) : Prop := ∀ i, i < m.Frames.Used.length → m.Frames.Used[i]? = some (decide (0 < (pPagesOn m.Table (i : Int)).length))
instance (m : GMachine) : Decidable (usedAre m) := by unfold usedAre; infer_instance
def okM (m : GMachine) : Prop := okF m.Frames ∧ pTableOk m.Table (m.Frames.Cells.length : Int) = true ∧ usedAre m
instance (m : GMachine) : Decidable (okM m) := by unfold okM; infer_instance
def pMachineOk (m : GMachine) : Bool := decide (okM m)
def noM : GMachine := ⟨⟨[], []⟩, ⟨[]⟩⟩
def pMachineNew (pages frames : Int) : GMachine × Bool := if (pFramesNew frames).2 = true ∧ (pTableNew pages).2 = true then (⟨(pFramesNew frames).1, (pTableNew pages).1⟩, true) else (noM, false)
/-- the entry of an address, and its offset -/
def pEntry (m : GMachine) (addr : Int) : GEntry × Int := if addr < 0 then (⟨0, 0⟩, 0) else (pPageEntry m.Table (addr / 16), addr % 16)
def canLoad (m : GMachine) (addr : Int) : Prop := okM m ∧ (pEntry m addr).1.Mode ≠ 0
instance (m : GMachine) (addr : Int) : Decidable (canLoad m addr) := by unfold canLoad; infer_instance
def cellOf (m : GMachine) (f k : Int) : Int := (m.Frames.Cells.getD f.toNat []).getD k.toNat 0
def pLoad (m : GMachine) (addr : Int) : Int × Int := if canLoad m addr then (cellOf m (pEntry m addr).1.Frame (pEntry m addr).2, 0) else (0, 1)
def setCellOf (m : GMachine) (f k v : Int) : GMachine := ⟨⟨m.Frames.Cells.set f.toNat ((m.Frames.Cells.getD f.toNat []).set k.toNat v), m.Frames.Used⟩, m.Table⟩
def pStore (m : GMachine) (addr v : Int) : GMachine × Int :=
  if canLoad m addr then
    if (pEntry m addr).1.Mode = 1 then (m, 2)
    else if 0 ≤ v ∧ v ≤ 999 then (setCellOf m (pEntry m addr).1.Frame (pEntry m addr).2 v, 0) else (m, 3)
  else (m, 1)
def pPageText (m : GMachine) (page : Int) : List Int := if okM m ∧ (pPageEntry m.Table page).Mode ≠ 0 then m.Frames.Cells.getD (pPageEntry m.Table page).Frame.toNat [] else []
/-- a mapped entry of a valid machine: its frame is there -/
theorem okM_entry {m : GMachine} (h : okM m) {page : Int} (hm : (pPageEntry m.Table page).Mode ≠ 0) : ∃ f : Nat, (pPageEntry m.Table page).Frame = (f : Int) ∧ f < m.Frames.Cells.length ∧ f < m.Frames.Used.length ∧ (m.Frames.Cells.getD f []).length = 16 ∧ m.Frames.Cells[f]? = some (m.Frames.Cells.getD f []) := by
  obtain ⟨h1, h2, _⟩ := h
  unfold pTableOk at h2
  rw [decide_eq_true_iff] at h2
  have he : pPageEntry m.Table page ∈ m.Table.Entries ∨ pPageEntry m.Table page = ⟨0, 0⟩ := by
    unfold pPageEntry
    split
    · rename_i hp
      left
      rw [List.getD_eq_getElem?_getD, List.getElem?_eq_getElem (by omega)]
      exact List.getElem_mem _
    · right; rfl
  rcases he with he | he
  · rcases h2.1 _ he with ⟨h0, _⟩ | ⟨_, h3, h4⟩
    · exact absurd h0 hm
    · obtain ⟨f, hf⟩ := Int.eq_ofNat_of_zero_le h3
      have hl : f < m.Frames.Cells.length := by rw [hf] at h4; omega
      have hu : f < m.Frames.Used.length := by rw [h1.2.1]; exact hl
      have hr : m.Frames.Cells[f]? = some (m.Frames.Cells.getD f []) := by rw [List.getD_eq_getElem?_getD, List.getElem?_eq_getElem hl]; rfl
      exact ⟨f, hf, hl, hu, (h1.2.2 _ (List.mem_of_getElem? (zip_at hr (List.getElem?_eq_getElem hu)))).1, hr⟩
  · rw [he] at hm; exact absurd rfl hm
/-- where the cell of an address lies that can be loaded -/
theorem load_at {m : GMachine} {addr : Int} (h : canLoad m addr) : 0 ≤ addr ∧ ∃ (f k : Nat) (r : List Int), (pEntry m addr).1.Frame = (f : Int) ∧ (pEntry m addr).2 = (k : Int) ∧ k < 16 ∧ f < m.Frames.Cells.length ∧ f < m.Frames.Used.length ∧ m.Frames.Cells[f]? = some r ∧ r.length = 16 := by
  obtain ⟨h1, h2⟩ := h
  by_cases ha : addr < 0
  · unfold pEntry at h2
    rw [if_pos ha] at h2
    exact absurd rfl h2
  · unfold pEntry at h2 ⊢
    rw [if_neg ha] at h2 ⊢
    obtain ⟨f, hf, hl, hu, hr, hrow⟩ := okM_entry h1 h2
    exact ⟨by omega, f, (addr % 16).toNat, _, hf, by show addr % 16 = _; omega, by omega, hl, hu, hrow, hr⟩
end Tr
end Go.Proofs.Ytkcoejodhdnoiaa

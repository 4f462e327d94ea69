/- Kernel calls: what the chapter says. No program. -/
import Derived.Test.YtkcoejodhdnoiaaM07
namespace Go.Proofs.Ytkcoejodhdnoiaa
open Go.RowKit
set_option linter.unusedVariables false
namespace Tr
def okK (k : GKernel) : Prop := okM k.Machine ∧ (0 ≤ k.Calls ∧ k.Calls ≤ 100000) ∧ (∀ x ∈ k.Refuse, 0 ≤ x) ∧ k.Refuse.length ≤ 40
instance (k : GKernel) : Decidable (okK k) := by unfold okK; infer_instance
def pKernelOk (k : GKernel) : Bool := decide (okK k)
def noK : GKernel := ⟨noM, 0, []⟩
def pKernelNew (pages frames : Int) (refuse : List Int) : GKernel × Bool := if (pMachineNew pages frames).2 = true ∧ okK ⟨(pMachineNew pages frames).1, 0, refuse⟩ then (⟨(pMachineNew pages frames).1, 0, refuse⟩, true) else (noK, false)
def canCall (k : GKernel) : Prop := okK k ∧ k.Calls < 100000
instance (k : GKernel) : Decidable (canCall k) := by unfold canCall; infer_instance
/-- the kernel behind one call more, and whether that call is granted -/
def called (k : GKernel) : GKernel := ⟨k.Machine, k.Calls + 1, k.Refuse⟩
def granted (k : GKernel) : Prop := k.Calls ∉ k.Refuse
instance (k : GKernel) : Decidable (granted k) := by unfold granted; infer_instance
def modeOf (k : GKernel) (page : Int) : Int := (pPageEntry k.Machine.Table page).Mode
/-- a frame given back if no page is mapped to it -/
def dropped (m : GMachine) (f : Nat) : GMachine := if (pPagesOn m.Table (f : Int)).length = 0 then ⟨⟨m.Frames.Cells.set f (List.replicate 16 0), m.Frames.Used.set f false⟩, m.Table⟩ else m
def setEntry (m : GMachine) (page : Nat) (e : GEntry) : GMachine := ⟨m.Frames, ⟨m.Table.Entries.set page e⟩⟩
def pNew (k : GKernel) (page : Int) : GKernel × Bool :=
  if granted k ∧ (0 ≤ page ∧ page < k.Machine.Table.Entries.length) ∧ modeOf k page = 0 ∧ 0 ≤ pFree k.Machine.Frames then
    (⟨setEntry ⟨⟨k.Machine.Frames.Cells, k.Machine.Frames.Used.set (pFree k.Machine.Frames).toNat true⟩, k.Machine.Table⟩ page.toNat ⟨2, pFree k.Machine.Frames⟩, k.Calls + 1, k.Refuse⟩, true)
  else (called k, false)
def pKMapNew (k : GKernel) (page : Int) : GKernel × Bool := if canCall k then pNew k page else (k, false)
def pOn (k : GKernel) (page other : Int) : GKernel × Bool :=
  if granted k ∧ modeOf k page ≠ 0 ∧ modeOf k other ≠ 0 ∧ page ≠ other then
    (⟨dropped (setEntry k.Machine page.toNat ⟨2, (pPageEntry k.Machine.Table other).Frame⟩) (pPageEntry k.Machine.Table page).Frame.toNat, k.Calls + 1, k.Refuse⟩, true)
  else (called k, false)
def pKMapOn (k : GKernel) (page other : Int) : GKernel × Bool := if canCall k then pOn k page other else (k, false)
def pProtect (k : GKernel) (page mode : Int) : GKernel × Bool :=
  if granted k ∧ modeOf k page ≠ 0 ∧ (1 ≤ mode ∧ mode ≤ 2) then (⟨setEntry k.Machine page.toNat ⟨mode, (pPageEntry k.Machine.Table page).Frame⟩, k.Calls + 1, k.Refuse⟩, true) else (called k, false)
def pKProtect (k : GKernel) (page mode : Int) : GKernel × Bool := if canCall k then pProtect k page mode else (k, false)
def pUnmap (k : GKernel) (page : Int) : GKernel × Bool :=
  if modeOf k page ≠ 0 then (⟨dropped (setEntry k.Machine page.toNat ⟨0, 0⟩) (pPageEntry k.Machine.Table page).Frame.toNat, k.Calls, k.Refuse⟩, true) else (k, false)
def pKUnmap (k : GKernel) (page : Int) : GKernel × Bool := if canCall k then pUnmap k page else (k, false)
/-- the cells of one frame copied into another, one behind the other -/
def copied (m : GMachine) (a b : Int) : List Int → GMachine
  | [] => m
  | c :: l => copied (setCellOf m b c (cellOf m a c)) a b l
def pCells (k : GKernel) (a b : Int) (cells : List Int) : GKernel × Bool :=
  if (modeOf k a ≠ 0 ∧ modeOf k b ≠ 0) ∧ (∀ c ∈ cells, 0 ≤ c ∧ c ≤ 15) then (⟨copied k.Machine (pPageEntry k.Machine.Table a).Frame (pPageEntry k.Machine.Table b).Frame cells, k.Calls, k.Refuse⟩, true) else (k, false)
def pKCopy (k : GKernel) (a b : Int) (cells : List Int) : GKernel × Bool := if canCall k then pCells k a b cells else (k, false)
end Tr
end Go.Proofs.Ytkcoejodhdnoiaa

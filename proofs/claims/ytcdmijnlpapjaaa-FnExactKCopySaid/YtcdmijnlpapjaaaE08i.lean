/- Kernel calls: sizes and arguments for the laws' walks. -/
import Derived.Test.YtcdmijnlpapjaaaE07
import Derived.Test.YtcdmijnlpapjaaaM08
import Derived.Test.YtcdmijnlpapjaaaSzT
import Derived.Test.YtcdmijnlpapjaaaE08
import Derived.Test.YtcdmijnlpapjaaaEI08
namespace Go.Proofs.Ytcdmijnlpapjaaa
open Go.RowKit
set_option linter.unusedVariables false
set_option linter.unusedSimpArgs false
set_option maxRecDepth 100000
namespace Eng
open Tr
theorem szM7_of {m : GMachine} (hs : (eMachine m).sz ≤ 1048576) : szM7 m := by
  obtain ⟨_, h2, h3, h4⟩ := sz_machine hs
  refine ⟨sz_len (T := 33) (k := 1) (E := eIntS) h3, sz_len (T := 4) (k := 1) (E := Tr.eB) h4, fun r hr => ?_, by have := sz_Table_len m.Table; omega⟩
  obtain ⟨i, hi⟩ := List.getElem?_of_mem hr
  have := sz_elem (T := 33) (k := 1) (E := eIntS) (l := m.Frames.Cells) (n := 1048576) h3 hi
  rwa [sz_ints] at this
theorem szK8_of {k : GKernel} (hs : (eKernel k).sz ≤ 1048576) : szK8 k := by
  rw [sz_Kernel, sz_ints] at hs
  exact ⟨szM7_of (by omega), by omega⟩
theorem args_Kernel {w : World} {k : GKernel} {c0 c1 c2 c4 : Value} (h : Rd w (eKernel k) [c0, c1, c2, .int .i64 k.Calls, c4]) : SRel (cxOf w) noEnv (.agg [ro 33 1 eIntS k.Machine.Frames.Cells, ro 4 1 Tr.eB k.Machine.Frames.Used, ro 78 2 eEntry k.Machine.Table.Entries, (CV.lit (.int .i64 (k.Calls))), ro 3 1 Tr.eI k.Refuse]) (.agg #[c0, c1, c2, .int .i64 k.Calls, c4]) := arg_agg h (by rw [← ro_eq, ← ro_eq, ← ro_eq, ← ro_eq]; rfl) (And.intro rfl trivial)
theorem arg_ints {w : World} {l : List Int} {c : Value} (h : Rd w (eIntS l) [c]) : SRel (cxOf w) noEnv (.one (ro 3 1 Tr.eI l)) c := arg_one h (by rw [← ro_eq]; rfl) trivial
theorem szM_to {m : GMachine} (h : szM7 m) : szM m := ⟨h.c, h.u, h.r, h.e⟩
theorem szK_of {k : GKernel} (hs : (eKernel k).sz ≤ 1048576) : szK k := by
  have h := szK8_of hs
  exact ⟨szM_to h.m, h.r⟩
end Eng
namespace Tr
open Eng
theorem sz_rows : ∀ {l l' : List (List Int)}, l'.length = l.length → (∀ g, (l'.getD g []).length = (l.getD g []).length) → szs (l'.map eIntS) = szs (l.map eIntS)
  | [], [], _, _ => rfl
  | [], _ :: _, h, _ => by cases h
  | _ :: _, [], h, _ => by cases h
  | a :: l, b :: l', h, hg => by
    show (eIntS b).sz + szs (l'.map eIntS) = (eIntS a).sz + szs (l.map eIntS)
    rw [sz_ints, sz_ints, sz_rows (by simpa using h) (fun g => by simpa using hg (g + 1))]
    have := hg 0
    simp at this
    rw [this]
theorem sz_rows' {l l' : List (List Int)} (h : l'.length = l.length) (hg : ∀ g, (l'.getD g []).length = (l.getD g []).length) : (eIntSS l').sz = (eIntSS l).sz := by
  unfold eIntSS
  rw [rowD_sz, rowD_sz, h, sz_rows h hg]
theorem bM {m m' : GMachine} (h : (eMachine m).sz ≤ 1048576) (hu : m'.Frames.Used.length = m.Frames.Used.length) (he : m'.Table.Entries.length = m.Table.Entries.length) (hc : (eIntSS m'.Frames.Cells).sz ≤ (eIntSS m.Frames.Cells).sz + 1048576) : (eMachine m').sz ≤ 2097152 := by
  rw [sz_Machine, sz_Frames, sz_bools, sz_Table_len] at h ⊢
  omega
theorem bound_K {k k' : GKernel} {b : Nat} (h : (eMachine k'.Machine).sz ≤ b) (hr : k'.Refuse = k.Refuse) (hk : (eKernel k).sz ≤ 1048576) : (eKernel k').sz ≤ b + 1048576 := by
  rw [sz_Kernel, sz_ints] at hk ⊢
  rw [hr]
  show _ + (0 + _) ≤ _
  omega
theorem bK {k k' : GKernel} (hk : (eKernel k).sz ≤ 1048576) (hr : k'.Refuse = k.Refuse) (hu : k'.Machine.Frames.Used.length = k.Machine.Frames.Used.length) (he : k'.Machine.Table.Entries.length = k.Machine.Table.Entries.length) (hc : (eIntSS k'.Machine.Frames.Cells).sz ≤ (eIntSS k.Machine.Frames.Cells).sz + 1048576) : (eKernel k').sz ≤ 50000000 := by
  have h1 : (eMachine k.Machine).sz ≤ 1048576 := by rw [sz_Kernel] at hk; omega
  have := bound_K (k := k) (k' := k') (bM h1 hu he hc) hr hk
  omega
theorem bKeep {k k' : GKernel} (hk : (eKernel k).sz ≤ 1048576) (hr : k'.Refuse = k.Refuse) (hm : k'.Machine = k.Machine) : (eKernel k').sz ≤ 50000000 := bK hk hr (by rw [hm]) (by rw [hm]) (by rw [hm]; omega)
end Tr
end Go.Proofs.Ytcdmijnlpapjaaa

/- Kernel calls: what the laws' walks ask of the program's functions; how large the results are. -/
import Derived.Test.YtcdmijnlpapjaaaEI08c
import Derived.Test.YtcdmijnlpapjaaaEI08k
import Derived.Test.YtcdmijnlpapjaaaE08h
namespace Go.Proofs.Ytcdmijnlpapjaaa
open Go.RowKit
set_option linter.unusedVariables false
set_option linter.unusedSimpArgs false
set_option maxRecDepth 100000
namespace Eng
open Tr
theorem szM_new (p f : Int) : szM7 (pMachineNew p f).1 := by
  unfold pMachineNew
  split
  · have h1 : (pFramesNew f).1.Cells.length ≤ 32 ∧ (pFramesNew f).1.Used.length ≤ 32 ∧ ∀ r ∈ (pFramesNew f).1.Cells, r.length ≤ 16 := by
      unfold pFramesNew
      split
      · refine ⟨?_, ?_, fun r hr => ?_⟩
        · show (List.replicate _ _).length ≤ _; rw [List.length_replicate]; omega
        · show (List.replicate _ _).length ≤ _; rw [List.length_replicate]; omega
        · rw [List.eq_of_mem_replicate hr, List.length_replicate]; omega
      · exact ⟨Nat.zero_le _, Nat.zero_le _, fun r hr => by cases hr⟩
    have h2 : (pTableNew p).1.Entries.length ≤ 32 := by
      unfold pTableNew
      split
      · show (List.replicate _ _).length ≤ _; rw [List.length_replicate]; omega
      · exact Nat.zero_le _
    exact ⟨by show (pFramesNew f).1.Cells.length ≤ _; omega, by show (pFramesNew f).1.Used.length ≤ _; omega, fun r hr => by have := h1.2.2 r hr; omega, by show (pTableNew p).1.Entries.length ≤ _; omega⟩
  · exact ⟨Nat.zero_le _, Nat.zero_le _, (fun r hr => (nomatch hr)), Nat.zero_le _⟩
theorem szM_to {m : GMachine} (h : szM7 m) : szM m := ⟨h.c, h.u, h.r, h.e⟩
theorem szK_of {k : GKernel} (hs : (eKernel k).sz ≤ 1048576) : szK k := by
  have h := szK8_of hs
  exact ⟨szM_to h.m, h.r⟩
end Eng
namespace Tr
open Eng
theorem sz_rows : ∀ {l l' : List (List Int)}, l'.length = l.length → (∀ g, (l'.getD g []).length = (l.getD g []).length) → szs (l'.map eIntS) = szs (l.map eIntS)
  | [], [], _, _ => rfl
  | [], _ :: _, h, _ => by cases h
  | _ :: _, [], h, _ => by cases h
  | a :: l, b :: l', h, hg => by
    show (eIntS b).sz + szs (l'.map eIntS) = (eIntS a).sz + szs (l.map eIntS)
    rw [sz_ints, sz_ints, sz_rows (by simpa using h) (fun g => by simpa using hg (g + 1))]
    have := hg 0
    simp at this
    rw [this]
theorem sz_rows' {l l' : List (List Int)} (h : l'.length = l.length) (hg : ∀ g, (l'.getD g []).length = (l.getD g []).length) : (eIntSS l').sz = (eIntSS l).sz := by
  unfold eIntSS
  rw [rowD_sz, rowD_sz, h, sz_rows h hg]
theorem bM {m m' : GMachine} (h : (eMachine m).sz ≤ 1048576) (hu : m'.Frames.Used.length = m.Frames.Used.length) (he : m'.Table.Entries.length = m.Table.Entries.length) (hc : (eIntSS m'.Frames.Cells).sz ≤ (eIntSS m.Frames.Cells).sz + 1048576) : (eMachine m').sz ≤ 2097152 := by
  rw [sz_Machine, sz_Frames, sz_bools, sz_Table_len] at h ⊢
  omega
theorem bK {k k' : GKernel} (hk : (eKernel k).sz ≤ 1048576) (hr : k'.Refuse = k.Refuse) (hu : k'.Machine.Frames.Used.length = k.Machine.Frames.Used.length) (he : k'.Machine.Table.Entries.length = k.Machine.Table.Entries.length) (hc : (eIntSS k'.Machine.Frames.Cells).sz ≤ (eIntSS k.Machine.Frames.Cells).sz + 1048576) : (eKernel k').sz ≤ 50000000 := by
  have h1 : (eMachine k.Machine).sz ≤ 1048576 := by rw [sz_Kernel] at hk; omega
  have := bound_K (k := k) (k' := k') (bM h1 hu he hc) hr hk
  omega
theorem bKeep {k k' : GKernel} (hk : (eKernel k).sz ≤ 1048576) (hr : k'.Refuse = k.Refuse) (hm : k'.Machine = k.Machine) : (eKernel k').sz ≤ 50000000 := bK hk hr (by rw [hm]) (by rw [hm]) (by rw [hm]; omega)
theorem drop_u (m : GMachine) (f : Nat) : (Tr.dropped m f).Frames.Used.length = m.Frames.Used.length := by unfold Tr.dropped; split <;> simp
theorem drop_t (m : GMachine) (f : Nat) : (Tr.dropped m f).Table = m.Table := by unfold Tr.dropped; split <;> rfl
theorem drop_c (m : GMachine) (f : Nat) : (eIntSS (Tr.dropped m f).Frames.Cells).sz ≤ (eIntSS m.Frames.Cells).sz + 16 := by
  unfold Tr.dropped
  split
  · have := sz_set m.Frames.Cells f (List.replicate 16 0); simpa using this
  · omega
theorem bound_KernelNew (p f : Int) (r : List Int) (hr : (eIntS r).sz ≤ 1048576) : (eKernel (pKernelNew p f r).1).sz ≤ 50000000 := by
  unfold pKernelNew
  rw [sz_ints] at hr
  split
  · rename_i h
    rw [sz_Kernel, sz_ints]
    have hm : (eMachine (pMachineNew p f).1).sz ≤ 40000000 := by
      unfold pMachineNew
      split
      · rw [sz_Machine]
        have h1 := szb_FramesNew f
        have h2 : (pTableNew p).1.Entries.length ≤ 32 := by
          unfold pTableNew
          split
          · show (List.replicate _ _).length ≤ _; rw [List.length_replicate]; omega
          · exact Nat.zero_le _
        have h4 := sz_Table_len (pTableNew p).1
        show (eFrames (pFramesNew f).1).sz + (eTable (pTableNew p).1).sz ≤ _
        omega
      · show (eMachine noM).sz ≤ _
        rw [sz_Machine, sz_Frames, sz_bools, sz_Table_len]
        exact Nat.le_of_ble_eq_true rfl
    show (eMachine (pMachineNew p f).1).sz + (0 + r.length) ≤ _
    omega
  · show (eKernel noK).sz ≤ _
    rw [sz_Kernel, sz_ints, sz_Machine, sz_Frames, sz_bools, sz_Table_len]
    exact Nat.le_of_ble_eq_true rfl
theorem bound_KMapNew (k : GKernel) (page : Int) (h : (eKernel k).sz ≤ 1048576) : (eKernel (pKMapNew k page).1).sz ≤ 50000000 := by
  unfold pKMapNew
  split
  · unfold pNew
    split
    · exact bK h rfl (by simp [setEntry]) (by simp [setEntry]) (by simp [setEntry])
    · exact bKeep h rfl rfl
  · exact bKeep h rfl rfl
theorem bound_KMapOn (k : GKernel) (page other : Int) (h : (eKernel k).sz ≤ 1048576) : (eKernel (pKMapOn k page other).1).sz ≤ 50000000 := by
  unfold pKMapOn
  split
  · unfold pOn
    split
    · exact bK h rfl (by rw [drop_u]; rfl) (by rw [drop_t]; simp [setEntry]) (Nat.le_trans (drop_c _ _) (by show (eIntSS k.Machine.Frames.Cells).sz + _ ≤ _; omega))
    · exact bKeep h rfl rfl
  · exact bKeep h rfl rfl
theorem bound_KProtect (k : GKernel) (page mode : Int) (h : (eKernel k).sz ≤ 1048576) : (eKernel (pKProtect k page mode).1).sz ≤ 50000000 := by
  unfold pKProtect
  split
  · unfold pProtect
    split
    · exact bK h rfl (by simp [setEntry]) (by simp [setEntry]) (by simp [setEntry])
    · exact bKeep h rfl rfl
  · exact bKeep h rfl rfl
theorem bound_KUnmap (k : GKernel) (page : Int) (h : (eKernel k).sz ≤ 1048576) : (eKernel (pKUnmap k page).1).sz ≤ 50000000 := by
  unfold pKUnmap
  split
  · unfold pUnmap
    split
    · exact bK h rfl (by rw [drop_u]; rfl) (by rw [drop_t]; simp [setEntry]) (Nat.le_trans (drop_c _ _) (by show (eIntSS k.Machine.Frames.Cells).sz + _ ≤ _; omega))
    · exact bKeep h rfl rfl
  · exact bKeep h rfl rfl
theorem spec_KernelNew (p f : Int) (r : List Int) (d : Value) (w : World) (h : Rd w (eIntS r) [d]) (hs : (eIntS r).sz ≤ 1048576) (hp : okI p) (hf : okI f) : Calls Try.prog 26 #[.int .i64 p, .int .i64 f, d] w (RetM (fun us => .tuple #[.agg us.toArray, .bool (pKernelNew p f r).2]) (eKernel (pKernelNew p f r).1) w) :=
  ret_m (fn_KNew p f r (by rwa [sz_ints] at hs) (szM_new p f)) rfl (sh_agg_t rfl) rfl ⟨arg_lit rfl, arg_lit rfl, arg_ints h, trivial⟩
theorem impl_KernelNew (p f : Int) (r : List Int) (d : Value) (w : World) (h : Rd w (eIntS r) [d]) (hs : (eIntS r).sz ≤ 1048576) (hp : okI p) (hf : okI f) : Calls Try.prog 22 #[.int .i64 p, .int .i64 f, d] w (RetM (fun us => .tuple #[.agg us.toArray, .bool (pKernelNew p f r).2]) (eKernel (pKernelNew p f r).1) w) :=
  ret_m (fn_KNewI p f r (by rwa [sz_ints] at hs) (szM_to (szM_new p f))) rfl (sh_agg_t rfl) rfl ⟨arg_lit rfl, arg_lit rfl, arg_ints h, trivial⟩
theorem impl_KernelOk (k : GKernel) (c0 c1 c2 c4 : Value) (w : World) (h : Rd w (eKernel k) [c0, c1, c2, .int .i64 k.Calls, c4]) (hs : (eKernel k).sz ≤ 1048576) : Calls Try.prog 21 #[.agg #[c0, c1, c2, .int .i64 k.Calls, c4]] w (RetP (.bool (pKernelOk k)) w) :=
  ret_p (fn_KOkI k (szK_of hs)) rfl rfl ⟨args_Kernel h, trivial⟩
theorem impl_KMapNew (k : GKernel) (c0 c1 c2 c4 : Value) (page : Int) (w : World) (h : Rd w (eKernel k) [c0, c1, c2, .int .i64 k.Calls, c4]) (hs : (eKernel k).sz ≤ 1048576) (hp : okI page) : Calls Try.prog 16 #[.agg #[c0, c1, c2, .int .i64 k.Calls, c4], .int .i64 page] w (RetM (fun us => .tuple #[.agg us.toArray, .bool (pKMapNew k page).2]) (eKernel (pKMapNew k page).1) w) :=
  ret_m (fn_KMapNewI k page (szK_of hs)) rfl (sh_agg_t rfl) rfl ⟨args_Kernel h, arg_lit rfl, trivial⟩
theorem impl_KMapOn (k : GKernel) (c0 c1 c2 c4 : Value) (page other : Int) (w : World) (h : Rd w (eKernel k) [c0, c1, c2, .int .i64 k.Calls, c4]) (hs : (eKernel k).sz ≤ 1048576) (hp : okI page) (ho : okI other) : Calls Try.prog 17 #[.agg #[c0, c1, c2, .int .i64 k.Calls, c4], .int .i64 page, .int .i64 other] w (RetM (fun us => .tuple #[.agg us.toArray, .bool (pKMapOn k page other).2]) (eKernel (pKMapOn k page other).1) w) :=
  ret_m (fn_KMapOnI k page other (szK_of hs)) rfl (sh_agg_t rfl) rfl ⟨args_Kernel h, arg_lit rfl, arg_lit rfl, trivial⟩
theorem impl_KProtect (k : GKernel) (c0 c1 c2 c4 : Value) (page mode : Int) (w : World) (h : Rd w (eKernel k) [c0, c1, c2, .int .i64 k.Calls, c4]) (hs : (eKernel k).sz ≤ 1048576) (hp : okI page) (ho : okI mode) : Calls Try.prog 18 #[.agg #[c0, c1, c2, .int .i64 k.Calls, c4], .int .i64 page, .int .i64 mode] w (RetM (fun us => .tuple #[.agg us.toArray, .bool (pKProtect k page mode).2]) (eKernel (pKProtect k page mode).1) w) :=
  ret_m (fn_KProtectI k page mode (szK_of hs)) rfl (sh_agg_t rfl) rfl ⟨args_Kernel h, arg_lit rfl, arg_lit rfl, trivial⟩
theorem impl_KUnmap (k : GKernel) (c0 c1 c2 c4 : Value) (page : Int) (w : World) (h : Rd w (eKernel k) [c0, c1, c2, .int .i64 k.Calls, c4]) (hs : (eKernel k).sz ≤ 1048576) (hp : okI page) : Calls Try.prog 19 #[.agg #[c0, c1, c2, .int .i64 k.Calls, c4], .int .i64 page] w (RetM (fun us => .tuple #[.agg us.toArray, .bool (pKUnmap k page).2]) (eKernel (pKUnmap k page).1) w) :=
  ret_m (fn_KUnmapI k page (szK_of hs)) rfl (sh_agg_t rfl) rfl ⟨args_Kernel h, arg_lit rfl, trivial⟩
end Tr
end Go.Proofs.Ytcdmijnlpapjaaa

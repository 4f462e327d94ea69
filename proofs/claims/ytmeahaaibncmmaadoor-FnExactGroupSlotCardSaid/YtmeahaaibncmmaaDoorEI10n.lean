/- Meshable spans: what the laws' walks ask of the program's functions. -/
import Derived.Test.YtmeahaaibncmmaaDoorEI10
import Derived.Test.YtmeahaaibncmmaaDoorE10n
namespace Go.Proofs.YtmeahaaibncmmaaDoor
open Go.RowKit
set_option linter.unusedVariables false
set_option linter.unusedSimpArgs false
set_option maxRecDepth 100000
namespace Tr
open Eng
theorem impl_Meshable (a b : GSpan) (w : World) (hM : Bm.Masks w) (hS : Cl.Sizes w) : Calls Tryd.prog 21 #[.agg #[.int .i64 a.Page, .int .i64 a.Class, .int .i64 a.Bits], .agg #[.int .i64 b.Page, .int .i64 b.Class, .int .i64 b.Bits]] w (RetP (.bool (pMesh a b)) w) := by
  obtain ⟨t, hg⟩ := tb_both hM hS
  exact ret_p (fn_MeshI t a b) rfl rfl ⟨arg_Sp a, arg_Sp b, trivial⟩ hg
theorem impl_GroupOk (l : List GSpan) (c0 : Value) (w : World) (h : Rd w (eSpanS l) [c0]) (hs : (eSpanS l).sz ≤ 1048576) (hM : Bm.Masks w) (hS : Cl.Sizes w) : Calls Tryd.prog 14 #[c0] w (RetP (.bool (pGroupOk l)) w) := by
  obtain ⟨t, hg⟩ := tb_both hM hS
  exact ret_p (fn_GroupOkI t l (spans_len hs)) rfl rfl ⟨arg_spans h, trivial⟩ hg
theorem impl_GroupBits (l : List GSpan) (c0 : Value) (w : World) (h : Rd w (eSpanS l) [c0]) (hs : (eSpanS l).sz ≤ 1048576) (hM : Bm.Masks w) (hS : Cl.Sizes w) : Calls Tryd.prog 15 #[c0] w (RetP (.int .i64 (pGroupBits l)) w) := by
  obtain ⟨t, hg⟩ := tb_both hM hS
  exact ret_p (fn_GroupBitsI t l (spans_len hs)) rfl rfl ⟨arg_spans h, trivial⟩ hg
theorem impl_GroupSlot (l : List GSpan) (c0 : Value) (k : Int) (w : World) (h : Rd w (eSpanS l) [c0]) (hs : (eSpanS l).sz ≤ 1048576) (hk : okI k) (hM : Bm.Masks w) (hS : Cl.Sizes w) : Calls Tryd.prog 16 #[c0, .int .i64 k] w (RetP (.int .i64 (pGroupSlot l k)) w) := by
  obtain ⟨t, hg⟩ := tb_both hM hS
  exact ret_p (fn_GroupSlotI t l k (spans_len hs)) rfl rfl ⟨arg_spans h, arg_lit rfl, trivial⟩ hg
theorem impl_MeshEdges (l : List GSpan) (c0 : Value) (w : World) (h : Rd w (eSpanS l) [c0]) (hs : (eSpanS l).sz ≤ 1048576) (hM : Bm.Masks w) (hS : Cl.Sizes w) : Calls Tryd.prog 23 #[c0] w (RetP (.int .i64 (pMeshEdges l)) w) := by
  obtain ⟨t, hg⟩ := tb_both hM hS
  exact ret_p (fn_MeshEdgesI t l (spans_len hs)) rfl rfl ⟨arg_spans h, trivial⟩ hg
end Tr
end Go.Proofs.YtmeahaaibncmmaaDoor

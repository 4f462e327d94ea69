/- Kernel calls: what the law on copying cells asks. -/
import Derived.Test.YtcdmijnlpapjaaaE08i
import Derived.Test.YtcdmijnlpapjaaaEI08d
import Derived.Test.YtcdmijnlpapjaaaE08g
namespace Go.Proofs.Ytcdmijnlpapjaaa
open Go.RowKit
set_option linter.unusedVariables false
set_option maxRecDepth 100000
namespace Tr
open Eng
theorem bound_KCopy (k : GKernel) (a b : Int) (l : List Int) (h : (eKernel k).sz ≤ 1048576) (hl : (eIntS l).sz ≤ 1048576) : (eKernel (pKCopy k a b l).1).sz ≤ 50000000 := by
  unfold pKCopy
  split
  · unfold pCells
    split
    · obtain ⟨h1, h2, h3, h4⟩ := copied_keeps (pPageEntry k.Machine.Table a).Frame (pPageEntry k.Machine.Table b).Frame l k.Machine
      exact bK h rfl (by rw [h1]) (by rw [h2]) (by rw [sz_rows' h3 h4]; omega)
    · exact bKeep h rfl rfl
  · exact bKeep h rfl rfl
theorem spec_KCopy (k : GKernel) (c0 c1 c2 c4 : Value) (a b : Int) (l : List Int) (d : Value) (w : World) (h : Rd w (eKernel k) [c0, c1, c2, .int .i64 k.Calls, c4]) (hl : Rd w (eIntS l) [d]) (hs : (eKernel k).sz ≤ 1048576) (hls : (eIntS l).sz ≤ 1048576) (hp : okI a) (ho : okI b) : Calls Try.prog 40 #[.agg #[c0, c1, c2, .int .i64 k.Calls, c4], .int .i64 a, .int .i64 b, d] w (RetM (fun us => .tuple #[.agg us.toArray, .bool (pKCopy k a b l).2]) (eKernel (pKCopy k a b l).1) w) :=
  ret_m (fn_KCopy k a b l (szK8_of hs) (by rwa [sz_ints] at hls)) rfl (sh_agg_t rfl) rfl ⟨args_Kernel h, arg_lit rfl, arg_lit rfl, arg_ints hl, trivial⟩
theorem impl_KCopy (k : GKernel) (c0 c1 c2 c4 : Value) (a b : Int) (l : List Int) (d : Value) (w : World) (h : Rd w (eKernel k) [c0, c1, c2, .int .i64 k.Calls, c4]) (hl : Rd w (eIntS l) [d]) (hs : (eKernel k).sz ≤ 1048576) (hls : (eIntS l).sz ≤ 1048576) (hp : okI a) (ho : okI b) : Calls Try.prog 41 #[.agg #[c0, c1, c2, .int .i64 k.Calls, c4], .int .i64 a, .int .i64 b, d] w (RetM (fun us => .tuple #[.agg us.toArray, .bool (pKCopy k a b l).2]) (eKernel (pKCopy k a b l).1) w) :=
  ret_m (fn_KCopyI k a b l (szK_of hs) (by rwa [sz_ints] at hls)) rfl (sh_agg_t rfl) rfl ⟨args_Kernel h, arg_lit rfl, arg_lit rfl, arg_ints hl, trivial⟩
end Tr
end Go.Proofs.Ytcdmijnlpapjaaa

/- Meshable spans: what the laws' walks ask of the specification's functions. -/
import Derived.Test.YthcgaeodcoidnaaDoorE10
import Derived.Test.YthcgaeodcoidnaaDoorSz
namespace Go.Proofs.YthcgaeodcoidnaaDoor
open Go.RowKit
set_option linter.unusedVariables false
set_option linter.unusedSimpArgs false
set_option maxRecDepth 100000
namespace Eng
open Tr
theorem arg_Sp {w : World} (s : GSpan) : SRel (cxOf w) noEnv (.agg [(CV.lit (.int .i64 (s.Page))), (CV.lit (.int .i64 (s.Class))), (CV.lit (.int .i64 (s.Bits)))]) (.agg #[.int .i64 s.Page, .int .i64 s.Class, .int .i64 s.Bits]) :=
  arg_lits (vs := [.int .i64 s.Page, .int .i64 s.Class, .int .i64 s.Bits]) rfl (by intro v hv; simp only [List.mem_cons, List.not_mem_nil, or_false] at hv; rcases hv with rfl | rfl | rfl <;> rfl)
theorem arg_spans {w : World} {l : List GSpan} {c : Value} (h : Rd w (eSpanS l) [c]) : SRel (cxOf w) noEnv (.one (ro 38 3 eSpan l)) c := arg_one h (by rw [← ro_eq]; rfl) trivial
theorem spans_len {l : List GSpan} (hs : (eSpanS l).sz ≤ 1048576) : l.length ≤ 1048576 := by
  unfold eSpanS at hs
  rw [rowD_sz, szs_zero (fun _ => rfl)] at hs
  omega
end Eng
namespace Tr
open Eng
theorem spec_Meshable (a b : GSpan) (w : World) : Calls Tryd.prog 18 #[.agg #[.int .i64 a.Page, .int .i64 a.Class, .int .i64 a.Bits], .agg #[.int .i64 b.Page, .int .i64 b.Class, .int .i64 b.Bits]] w (RetP (.bool (pMesh a b)) w) :=
  ret_p (fn_Mesh a b) rfl rfl ⟨arg_Sp a, arg_Sp b, trivial⟩
end Tr
end Go.Proofs.YthcgaeodcoidnaaDoor

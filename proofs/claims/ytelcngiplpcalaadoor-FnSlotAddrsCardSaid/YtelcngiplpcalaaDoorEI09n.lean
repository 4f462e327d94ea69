/- Spans: what the laws' walks ask of the functions. -/
import Derived.Test.YtelcngiplpcalaaDoorEI09
namespace Go.Proofs.YtelcngiplpcalaaDoor
open Go.RowKit
set_option linter.unusedVariables false
set_option linter.unusedSimpArgs false
set_option maxRecDepth 100000
namespace Eng
open Tr
theorem arg_Span {w : World} (s : GSpan) : SRel (cxOf w) noEnv (.agg [(CV.lit (.int .i64 (s.Page))), (CV.lit (.int .i64 (s.Class))), (CV.lit (.int .i64 (s.Bits)))]) (.agg #[.int .i64 s.Page, .int .i64 s.Class, .int .i64 s.Bits]) :=
  arg_lits (vs := [.int .i64 s.Page, .int .i64 s.Class, .int .i64 s.Bits]) rfl (by intro v hv; simp only [List.mem_cons, List.not_mem_nil, or_false] at hv; rcases hv with rfl | rfl | rfl <;> rfl)
end Eng
namespace Tr
open Eng
theorem spec_SpanOk (s : GSpan) (w : World) : Calls Tryd.prog 27 #[.agg #[.int .i64 s.Page, .int .i64 s.Class, .int .i64 s.Bits]] w (RetP (.bool (pSpanOk s)) w) :=
  ret_p (fn_SpanOk s) rfl rfl ⟨arg_Span s, trivial⟩
theorem impl_SpanOk (s : GSpan) (w : World) (hS : Cl.Sizes w) : Calls Tryd.prog 19 #[.agg #[.int .i64 s.Page, .int .i64 s.Class, .int .i64 s.Bits]] w (RetP (.bool (pSpanOk s)) w) := by
  obtain ⟨t, hg⟩ := tb_one hS
  exact ret_p (fn_SpanOkI t s) rfl rfl ⟨arg_Span s, trivial⟩ hg
theorem spec_SpanFull (s : GSpan) (w : World) : Calls Tryd.prog 38 #[.agg #[.int .i64 s.Page, .int .i64 s.Class, .int .i64 s.Bits]] w (RetP (.bool (pSpanFull s)) w) :=
  ret_p (fn_SpanFull s) rfl rfl ⟨arg_Span s, trivial⟩
theorem impl_SpanFull (s : GSpan) (w : World) (hM : Bm.Masks w) (hS : Cl.Sizes w) : Calls Tryd.prog 16 #[.agg #[.int .i64 s.Page, .int .i64 s.Class, .int .i64 s.Bits]] w (RetP (.bool (pSpanFull s)) w) := by
  obtain ⟨t, hg⟩ := tb_both hM hS
  exact ret_p (fn_SpanFullI t s) rfl rfl ⟨arg_Span s, trivial⟩ hg
theorem spec_SpanTake (s : GSpan) (k : Int) (w : World) (hk : okI k) : Calls Tryd.prog 29 #[.agg #[.int .i64 s.Page, .int .i64 s.Class, .int .i64 s.Bits], .int .i64 k] w (RetP (.tuple #[.agg #[.int .i64 (pSpanTake s k).1.Page, .int .i64 (pSpanTake s k).1.Class, .int .i64 (pSpanTake s k).1.Bits], .int .i64 (pSpanTake s k).2.1, .int .i64 (pSpanTake s k).2.2.1, .bool (pSpanTake s k).2.2.2]) w) :=
  ret_p (fn_SpanTake s k) rfl rfl ⟨arg_Span s, arg_lit rfl, trivial⟩
theorem impl_SpanTake (s : GSpan) (k : Int) (w : World) (hk : okI k) (hM : Bm.Masks w) (hS : Cl.Sizes w) : Calls Tryd.prog 15 #[.agg #[.int .i64 s.Page, .int .i64 s.Class, .int .i64 s.Bits], .int .i64 k] w (RetP (.tuple #[.agg #[.int .i64 (pSpanTake s k).1.Page, .int .i64 (pSpanTake s k).1.Class, .int .i64 (pSpanTake s k).1.Bits], .int .i64 (pSpanTake s k).2.1, .int .i64 (pSpanTake s k).2.2.1, .bool (pSpanTake s k).2.2.2]) w) := by
  obtain ⟨t, hg⟩ := tb_both hM hS
  exact ret_p (fn_SpanTakeI t s k) rfl rfl ⟨arg_Span s, arg_lit rfl, trivial⟩ hg
theorem spec_SpanGive (s : GSpan) (k : Int) (w : World) (hk : okI k) : Calls Tryd.prog 31 #[.agg #[.int .i64 s.Page, .int .i64 s.Class, .int .i64 s.Bits], .int .i64 k] w (RetP (.tuple #[.agg #[.int .i64 (pSpanGive s k).1.Page, .int .i64 (pSpanGive s k).1.Class, .int .i64 (pSpanGive s k).1.Bits], .bool (pSpanGive s k).2]) w) :=
  ret_p (fn_SpanGive s k) rfl rfl ⟨arg_Span s, arg_lit rfl, trivial⟩
theorem impl_SpanGive (s : GSpan) (k : Int) (w : World) (hk : okI k) (hM : Bm.Masks w) (hS : Cl.Sizes w) : Calls Tryd.prog 17 #[.agg #[.int .i64 s.Page, .int .i64 s.Class, .int .i64 s.Bits], .int .i64 k] w (RetP (.tuple #[.agg #[.int .i64 (pSpanGive s k).1.Page, .int .i64 (pSpanGive s k).1.Class, .int .i64 (pSpanGive s k).1.Bits], .bool (pSpanGive s k).2]) w) := by
  obtain ⟨t, hg⟩ := tb_both hM hS
  exact ret_p (fn_SpanGiveI t s k) rfl rfl ⟨arg_Span s, arg_lit rfl, trivial⟩ hg
theorem spec_SpanAddr (s : GSpan) (k : Int) (w : World) (hk : okI k) : Calls Tryd.prog 32 #[.agg #[.int .i64 s.Page, .int .i64 s.Class, .int .i64 s.Bits], .int .i64 k] w (RetP (.int .i64 (pSpanAddr s k)) w) :=
  ret_p (fn_SpanAddr s k) rfl rfl ⟨arg_Span s, arg_lit rfl, trivial⟩
theorem impl_SpanAddr (s : GSpan) (k : Int) (w : World) (hk : okI k) (hS : Cl.Sizes w) : Calls Tryd.prog 24 #[.agg #[.int .i64 s.Page, .int .i64 s.Class, .int .i64 s.Bits], .int .i64 k] w (RetP (.int .i64 (pSpanAddr s k)) w) := by
  obtain ⟨t, hg⟩ := tb_one hS
  exact ret_p (fn_SpanAddrI t s k) rfl rfl ⟨arg_Span s, arg_lit rfl, trivial⟩ hg
theorem spec_SlotAt (s : GSpan) (a : Int) (w : World) (hk : okI a) : Calls Tryd.prog 33 #[.agg #[.int .i64 s.Page, .int .i64 s.Class, .int .i64 s.Bits], .int .i64 a] w (RetP (.tuple #[.int .i64 (pSlotAt s a).1, .int .i64 (pSlotAt s a).2]) w) :=
  ret_p (fn_SlotAt s a hk.2) rfl rfl ⟨arg_Span s, arg_lit rfl, trivial⟩
theorem impl_SlotAt (s : GSpan) (a : Int) (w : World) (hk : okI a) (hS : Cl.Sizes w) : Calls Tryd.prog 23 #[.agg #[.int .i64 s.Page, .int .i64 s.Class, .int .i64 s.Bits], .int .i64 a] w (RetP (.tuple #[.int .i64 (pSlotAt s a).1, .int .i64 (pSlotAt s a).2]) w) := by
  obtain ⟨t, hg⟩ := tb_one hS
  exact ret_p (fn_SlotAtI t s a hk.2) rfl rfl ⟨arg_Span s, arg_lit rfl, trivial⟩ hg
theorem spec_SpanCells (s : GSpan) (w : World) : Calls Tryd.prog 34 #[.agg #[.int .i64 s.Page, .int .i64 s.Class, .int .i64 s.Bits]] w (RetM (fun us => us.headD undef) (eIntS (pSpanCells s)) w) :=
  ret_m (fn_SpanCells s) rfl sh_one rfl ⟨arg_Span s, trivial⟩
theorem impl_SpanCells (s : GSpan) (w : World) (hM : Bm.Masks w) (hS : Cl.Sizes w) : Calls Tryd.prog 25 #[.agg #[.int .i64 s.Page, .int .i64 s.Class, .int .i64 s.Bits]] w (RetM (fun us => us.headD undef) (eIntS (pSpanCells s)) w) := by
  obtain ⟨t, hg⟩ := tb_both hM hS
  exact ret_m (fn_SpanCellsI t s) rfl sh_one rfl ⟨arg_Span s, trivial⟩ hg
theorem bound_SpanCells (s : GSpan) : (eIntS (pSpanCells s)).sz ≤ 50000000 := by
  unfold eIntS
  rw [rowD_sz, szs_zero (fun _ => rfl)]
  unfold pSpanCells
  split
  · have := inUse_len s 16; omega
  · simp
end Tr
end Go.Proofs.YtelcngiplpcalaaDoor

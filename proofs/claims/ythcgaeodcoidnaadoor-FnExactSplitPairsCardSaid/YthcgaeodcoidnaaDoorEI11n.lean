/- Searching pairs: what the laws' walks ask of the program's functions. -/
import Derived.Test.YthcgaeodcoidnaaDoorEI11
import Derived.Test.YthcgaeodcoidnaaDoorEI11c
import Derived.Test.YthcgaeodcoidnaaDoorE11n
namespace Go.Proofs.YthcgaeodcoidnaaDoor
open Go.RowKit
set_option linter.unusedVariables false
set_option linter.unusedSimpArgs false
set_option maxRecDepth 100000
namespace Tr
open Eng
theorem impl_SplitPairs (l : List GSpan) (c0 : Value) (s t : Int) (w : World) (h : Rd w (eSpanS l) [c0]) (hs : (eSpanS l).sz ≤ 1048576) (hk : okI s) (ht : okI t) (hM : Bm.Masks w) (hS : Cl.Sizes w) : Calls Tryd.prog 12 #[c0, .int .i64 s, .int .i64 t] w (RetM (fun us => .tuple #[us.headD undef, .int .i64 (pSplitPairs l s t).2]) (ePairS (pSplitPairs l s t).1) w) := by
  obtain ⟨t', hg⟩ := tb_both hM hS
  exact ret_m (fn_SplitI t' l s t (spans_len hs)) rfl (sh_one_t rfl) rfl ⟨arg_spans h, arg_lit rfl, arg_lit rfl, trivial⟩ hg
theorem impl_PairsOk (l : List GSpan) (c0 : Value) (ps : List GPair) (c1 : Value) (w : World) (h : Rd w (eSpanS l) [c0]) (h' : Rd w (ePairS ps) [c1]) (hs : (eSpanS l).sz ≤ 1048576) (hs' : (ePairS ps).sz ≤ 1048576) (hM : Bm.Masks w) (hS : Cl.Sizes w) : Calls Tryd.prog 16 #[c0, c1] w (RetP (.bool (pPairsOk l ps)) w) := by
  obtain ⟨t, hg⟩ := tb_both hM hS
  exact ret_p (fn_PairsOkI t l ps (spans_len hs) (pairs_len hs')) rfl rfl ⟨arg_spans h, arg_pairs h', trivial⟩ hg
theorem impl_BestPairs (l : List GSpan) (c0 : Value) (w : World) (h : Rd w (eSpanS l) [c0]) (hs : (eSpanS l).sz ≤ 1048576) (hM : Bm.Masks w) (hS : Cl.Sizes w) : Calls Tryd.prog 14 #[c0] w (RetP (.int .i64 (pBestPairs l)) w) := by
  obtain ⟨t, hg⟩ := tb_both hM hS
  exact ret_p (fn_BestI t l (spans_len hs)) rfl rfl ⟨arg_spans h, trivial⟩ hg
theorem impl_GreedyPairs (l : List GSpan) (c0 : Value) (w : World) (h : Rd w (eSpanS l) [c0]) (hs : (eSpanS l).sz ≤ 1048576) (hM : Bm.Masks w) (hS : Cl.Sizes w) : Calls Tryd.prog 13 #[c0] w (RetM (fun us => us.headD undef) (ePairS (pGreedyPairs l)) w) := by
  obtain ⟨t, hg⟩ := tb_both hM hS
  exact ret_m (fn_GreedyI t l (spans_len hs)) rfl sh_one rfl ⟨arg_spans h, trivial⟩ hg
end Tr
end Go.Proofs.YthcgaeodcoidnaaDoor

/- Searching pairs: what the laws' walks ask of the specification's functions. -/
import Derived.Test.YthcgaeodcoidnaaDoorE11
import Derived.Test.YthcgaeodcoidnaaDoorE10n
namespace Go.Proofs.YthcgaeodcoidnaaDoor
open Go.RowKit
set_option linter.unusedVariables false
set_option linter.unusedSimpArgs false
set_option maxRecDepth 100000
namespace Tr
def pSplitPairs (l : List GSpan) (s tries : Int) : List GPair × Int := (pSplit l s tries, pSplitS l s tries)
def pBestPairs (l : List GSpan) : Int := pBest l
def pGreedyPairs (l : List GSpan) : List GPair := pGreedy l
theorem split_len (l : List GSpan) (s tries : Int) : (pSplit l s tries).length ≤ l.length := by
  unfold pSplit
  split
  · exact Nat.le_trans (run_le l _) (most_le pMesh l)
  · simp
theorem greedy_len (l : List GSpan) : (pGreedy l).length ≤ l.length := by
  unfold pGreedy
  split
  · exact Nat.le_trans (run_le l _) (most_le pMesh l)
  · simp
theorem pairs_sz (ps : List GPair) : (ePairS ps).sz = ps.length := by
  unfold ePairS
  rw [rowD_sz, szs_zero (fun _ => rfl)]
  omega
end Tr
namespace Eng
open Tr
theorem arg_pairs {w : World} {l : List GPair} {c : Value} (h : Rd w (ePairS l) [c]) : SRel (cxOf w) noEnv (.one (ro 60 2 ePair l)) c := arg_one h (by rw [← ro_eq]; rfl) trivial
theorem pairs_len {l : List GPair} (hs : (ePairS l).sz ≤ 1048576) : l.length ≤ 1048576 := by
  rw [pairs_sz] at hs
  omega
end Eng
namespace Tr
open Eng
theorem spec_SplitPairs (l : List GSpan) (c0 : Value) (s t : Int) (w : World) (h : Rd w (eSpanS l) [c0]) (hs : (eSpanS l).sz ≤ 1048576) (hk : okI s) (ht : okI t) : Calls Tryd.prog 20 #[c0, .int .i64 s, .int .i64 t] w (RetM (fun us => .tuple #[us.headD undef, .int .i64 (pSplitPairs l s t).2]) (ePairS (pSplitPairs l s t).1) w) :=
  ret_m (fn_SplitS l s t (spans_len hs)) rfl (sh_one_t rfl) rfl ⟨arg_spans h, arg_lit rfl, arg_lit rfl, trivial⟩
theorem spec_PairsOk (l : List GSpan) (c0 : Value) (ps : List GPair) (c1 : Value) (w : World) (h : Rd w (eSpanS l) [c0]) (h' : Rd w (ePairS ps) [c1]) (hs : (eSpanS l).sz ≤ 1048576) (hs' : (ePairS ps).sz ≤ 1048576) : Calls Tryd.prog 28 #[c0, c1] w (RetP (.bool (pPairsOk l ps)) w) :=
  ret_p (fn_PairsOkS l ps (spans_len hs) (pairs_len hs')) rfl rfl ⟨arg_spans h, arg_pairs h', trivial⟩
theorem spec_BestPairs (l : List GSpan) (c0 : Value) (w : World) (h : Rd w (eSpanS l) [c0]) (hs : (eSpanS l).sz ≤ 1048576) : Calls Tryd.prog 30 #[c0] w (RetP (.int .i64 (pBestPairs l)) w) :=
  ret_p (fn_BestS l (spans_len hs)) rfl rfl ⟨arg_spans h, trivial⟩
theorem spec_GreedyPairs (l : List GSpan) (c0 : Value) (w : World) (h : Rd w (eSpanS l) [c0]) (hs : (eSpanS l).sz ≤ 1048576) : Calls Tryd.prog 31 #[c0] w (RetM (fun us => us.headD undef) (ePairS (pGreedyPairs l)) w) :=
  ret_m (fn_GreedyS l (spans_len hs)) rfl sh_one rfl ⟨arg_spans h, trivial⟩
theorem bound_SplitPairs (l : List GSpan) (s t : Int) (hs : (eSpanS l).sz ≤ 1048576) : (ePairS (pSplitPairs l s t).1).sz ≤ 50000000 := by
  rw [pairs_sz]
  have h1 := split_len l s t
  have h2 := spans_len hs
  show (pSplit l s t).length ≤ _
  omega
theorem bound_GreedyPairs (l : List GSpan) (hs : (eSpanS l).sz ≤ 1048576) : (ePairS (pGreedyPairs l)).sz ≤ 50000000 := by
  rw [pairs_sz]
  have h1 := greedy_len l
  have h2 := spans_len hs
  show (pGreedy l).length ≤ _
  omega
end Tr
end Go.Proofs.YthcgaeodcoidnaaDoor

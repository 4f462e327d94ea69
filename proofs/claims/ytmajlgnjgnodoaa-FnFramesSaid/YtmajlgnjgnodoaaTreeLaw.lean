/- What the walks of the laws take of worlds that lie one behind another. No program. -/
import Derived.Test.YtmajlgnjgnodoaaTreeOps
namespace Go.Proofs.Ytmajlgnjgnodoaa
open Go.RowKit
set_option linter.unusedVariables false
namespace Tr
theorem cell_at {w w' : World} {g : Nat} {cur : Array Value} {T : TypeId} (hb : Below w.heap.size w w') (hx : w.heap[g]? = some (.cells cur T (0, 0))) (j : Nat) : w'.cell? ⟨g, j, none⟩ = cur[j]? :=
  cell_of_block ((hb.block g (lt_of_block hx)).trans hx) j
end Tr
end Go.Proofs.Ytmajlgnjgnodoaa

/- The program's structs as Lean structures. No program. -/
import Derived.WalkKit
namespace Go.Proofs.Ytmajlgnjgnodoaa
open Go.RowKit
namespace Tr
structure GFrames where
  Cells : List (List Int)
  Used : List Bool
end Tr
end Go.Proofs.Ytmajlgnjgnodoaa

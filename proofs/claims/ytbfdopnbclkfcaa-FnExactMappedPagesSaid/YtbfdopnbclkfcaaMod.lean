/- The program's structs as Lean structures. No program. -/
import Derived.WalkKit
namespace Go.Proofs.Ytbfdopnbclkfcaa
open Go.RowKit
namespace Tr
structure GEntry where
  Mode : Int
  Frame : Int
structure GTable where
  Entries : List GEntry
end Tr
end Go.Proofs.Ytbfdopnbclkfcaa

/- The program's structs as Lean structures. No program. -/
import Derived.WalkKit
namespace Go.Proofs.Ytabnglcabpijfaa
open Go.RowKit
namespace Tr
structure GWriter where
  Addr : Int
  Value : Int
  Done : Bool
  Waits : Int
end Tr
end Go.Proofs.Ytabnglcabpijfaa

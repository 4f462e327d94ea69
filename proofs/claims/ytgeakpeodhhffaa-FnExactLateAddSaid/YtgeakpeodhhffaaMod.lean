/- The program's structs as Lean structures. No program. -/
import Derived.WalkKit
namespace Go.Proofs.Ytgeakpeodhhffaa
open Go.RowKit
namespace Tr
structure GLate where
  Index : Int
  Slot : Int
end Tr
end Go.Proofs.Ytgeakpeodhhffaa

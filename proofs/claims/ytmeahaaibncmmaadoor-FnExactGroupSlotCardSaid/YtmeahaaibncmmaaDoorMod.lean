/- The program's structs as Lean structures. No program. -/
import Derived.WalkKit
namespace Go.Proofs.YtmeahaaibncmmaaDoor
open Go.RowKit
namespace Tr
structure GSpan where
  Page : Int
  Class : Int
  Bits : Int
end Tr
end Go.Proofs.YtmeahaaibncmmaaDoor

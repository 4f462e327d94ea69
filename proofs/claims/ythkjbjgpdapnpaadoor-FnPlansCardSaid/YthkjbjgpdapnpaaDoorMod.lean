/- The program's structs as Lean structures. No program. -/
import Derived.WalkKit
namespace Go.Proofs.YthkjbjgpdapnpaaDoor
open Go.RowKit
namespace Tr
structure GPlan where
  Keep : Int
  Move : Int
  Cells : List Int
structure GSpan where
  Page : Int
  Class : Int
  Bits : Int
structure GPair where
  A : Int
  B : Int
end Tr
end Go.Proofs.YthkjbjgpdapnpaaDoor

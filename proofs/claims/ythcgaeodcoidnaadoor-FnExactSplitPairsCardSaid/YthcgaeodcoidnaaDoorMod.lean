/- The program's structs as Lean structures. No program. -/
import Derived.WalkKit
namespace Go.Proofs.YthcgaeodcoidnaaDoor
open Go.RowKit
namespace Tr
structure GPair where
  A : Int
  B : Int
structure GSpan where
  Page : Int
  Class : Int
  Bits : Int
end Tr
end Go.Proofs.YthcgaeodcoidnaaDoor

/- The program's structs as Lean structures. No program. -/
import Derived.WalkKit
namespace Go.Proofs.Ythkjbjgpdapnpaa
open Go.RowKit
namespace Tr
structure GPlan where
  Keep : Int
  Move : Int
  Cells : List Int
end Tr
end Go.Proofs.Ythkjbjgpdapnpaa

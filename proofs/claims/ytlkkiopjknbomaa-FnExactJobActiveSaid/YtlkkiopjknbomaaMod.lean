/- The program's structs as Lean structures. No program. -/
import Derived.WalkKit
namespace Go.Proofs.Ytlkkiopjknbomaa
open Go.RowKit
namespace Tr
structure GPlan where
  Keep : Int
  Move : Int
  Cells : List Int
structure GJob where
  Plan : GPlan
  Phase : Int
  Next : Int
end Tr
end Go.Proofs.Ytlkkiopjknbomaa

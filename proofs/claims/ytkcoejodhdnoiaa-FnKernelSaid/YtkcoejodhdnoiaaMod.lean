/- The program's structs as Lean structures. No program. -/
import Derived.WalkKit
namespace Go.Proofs.Ytkcoejodhdnoiaa
open Go.RowKit
namespace Tr
structure GFrames where
  Cells : List (List Int)
  Used : List Bool
structure GEntry where
  Mode : Int
  Frame : Int
structure GTable where
  Entries : List GEntry
structure GMachine where
  Frames : GFrames
  Table : GTable
structure GKernel where
  Machine : GMachine
  Calls : Int
  Refuse : List Int
end Tr
end Go.Proofs.Ytkcoejodhdnoiaa

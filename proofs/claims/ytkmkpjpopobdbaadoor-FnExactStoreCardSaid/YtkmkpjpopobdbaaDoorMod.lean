/- The program's structs as Lean structures. No program. -/
import Derived.WalkKit
namespace Go.Proofs.YtkmkpjpopobdbaaDoor
open Go.RowKit
namespace Tr
structure GEntry where
  Mode : Int
  Frame : Int
structure GFrames where
  Cells : List (List Int)
  Used : List Bool
structure GTable where
  Entries : List GEntry
structure GMachine where
  Frames : GFrames
  Table : GTable
end Tr
end Go.Proofs.YtkmkpjpopobdbaaDoor

/- The program's structs as Lean structures. No program. -/
import Derived.WalkKit
namespace Go.Proofs.Ytmjfcncfhgdhaaa
open Go.RowKit
namespace Tr
structure GFraction where
  Num : Int
  Den : Int
end Tr
end Go.Proofs.Ytmjfcncfhgdhaaa

/- The laws' sizes. -/
import Derived.Test.YtmjfcncfhgdhaaaEnc
import Derived.WalkKit
import Derived.ProofKit
import Derived.BigQuiet
import Derived.Deep.QuietTactic
import Derived.Deep.RegionHeld3
import Derived.Lib.Hide
namespace Go.Proofs.Ytmjfcncfhgdhaaa
open Go.RowKit
namespace Tr
end Tr
end Go.Proofs.Ytmjfcncfhgdhaaa

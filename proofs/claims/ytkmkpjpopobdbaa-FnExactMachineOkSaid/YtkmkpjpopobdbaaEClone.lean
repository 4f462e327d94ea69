/- slices.Clone, by a symbolic run. -/
import Derived.Test.YtkmkpjpopobdbaaEH
namespace Go.Proofs.Ytkmkpjpopobdbaa
open Go.RowKit
set_option linter.unusedVariables false
set_option linter.unusedSimpArgs false
set_option maxRecDepth 100000
namespace Eng
open Tr
end Eng
end Go.Proofs.Ytkmkpjpopobdbaa

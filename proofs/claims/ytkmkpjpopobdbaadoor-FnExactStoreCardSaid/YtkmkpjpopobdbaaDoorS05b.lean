/- Physical frames: the specification's functions that read, behind FramesOk. -/
import Derived.Test.YtkmkpjpopobdbaaDoorS05
namespace Go.Proofs.YtkmkpjpopobdbaaDoor
open Go.RowKit
set_option linter.unusedVariables false
namespace Tr
theorem rd_box {w w' : World} {d : D} {vs : List Value} (h : Rd w d vs) (hb : Below w.heap.size w w') : Rd w' d vs := h.below hb
end Tr
end Go.Proofs.YtkmkpjpopobdbaaDoor

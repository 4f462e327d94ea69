/- Writes during meshing: writers that wait. No program. -/
import Derived.Test.YtabnglcabpijfaaMod
import Derived.RowKit
namespace Go.Proofs.Ytabnglcabpijfaa
open Go.RowKit
namespace Tr
def noW : GWriter := ⟨0, 0, false, 0⟩
def waitsW (w : GWriter) : Bool := !w.Done && decide (0 < w.Waits)
def pWaiting (ws : List GWriter) : Int := ((ws.countP waitsW : Nat) : Int)
end Tr
end Go.Proofs.Ytabnglcabpijfaa

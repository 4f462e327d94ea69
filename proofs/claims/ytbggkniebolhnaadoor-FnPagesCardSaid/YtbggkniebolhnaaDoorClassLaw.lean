/- The program's functions of chapter 4 at sizes and classes that are known. -/
import Derived.Test.YtbggkniebolhnaaDoorClassImpl
import Derived.Test.YtbggkniebolhnaaDoorPagesImpl
namespace Go.Proofs.YtbggkniebolhnaaDoor
open Go.RowKit
namespace Cl
open Bm
theorem callC (s k : Int) (h : cls s = k) (w : World) (hT : Sizes w) : Calls Tryd.prog 11 #[.int .i64 s] w (NumP k w) := h ▸ implClassOf s w hT
theorem callW (s k : Int) (h : waste s = k) (w : World) (hT : Sizes w) : Calls Tryd.prog 12 #[.int .i64 s] w (NumP k w) := h ▸ implWaste s w hT
theorem callZ (s k : Int) (h : csz s = k) (w : World) (hT : Sizes w) : Calls Tryd.prog 13 #[.int .i64 s] w (NumP k w) := h ▸ implClassSize s w hT
theorem callS (s k : Int) (h : slots s = k) (w : World) (hT : Sizes w) : Calls Tryd.prog 14 #[.int .i64 s] w (NumP k w) := h ▸ implSlotsOf s w hT
theorem callP (s k : Int) (h : pages s = k) (w : World) : Calls Tryd.prog 15 #[.int .i64 s] w (NumP k w) := h ▸ implPages s w
end Cl
end Go.Proofs.YtbggkniebolhnaaDoor

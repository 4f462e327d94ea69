/- Chapters 2 to 4: the specification's functions, for the symbolic run. -/
import Derived.Test.YtmeahaaibncmmaaDoorESt
import Derived.Test.YtmeahaaibncmmaaDoorBitLists
import Derived.Test.YtmeahaaibncmmaaDoorClassSpec
import Derived.Test.YtmeahaaibncmmaaDoorSeeds
namespace Go.Proofs.YtmeahaaibncmmaaDoor
open Go.RowKit
set_option linter.unusedVariables false
set_option linter.unusedSimpArgs false
set_option maxRecDepth 100000
namespace Eng
open Tr
def c_BmOkS (n b : Int) : CFD := ⟨48, [(SV.one (.lit (.int .i64 (n)))), (SV.one (.lit (.int .i64 (b))))], [], (TV.sv (.one (.lit (.bool (Bm.isMap n b))))), [], [], []⟩
theorem fn_BmOkS (n b : Int) : Fn Tryd.prog (c_BmOkS n b) := fn_boolP (vs := [.int .i64 n, .int .i64 b]) (fun w _ => Bm.specOk n b w) Tryd.call48
def c_HasS (b i : Int) : CFD := ⟨18, [(SV.one (.lit (.int .i64 (b)))), (SV.one (.lit (.int .i64 (i))))], [], (TV.sv (.one (.lit (.bool (Bm.has b i))))), [], [], []⟩
theorem fn_HasS (b i : Int) (hb : b ≤ 9223372036854775807) : Fn Tryd.prog (c_HasS b i) := fn_boolP (vs := [.int .i64 b, .int .i64 i]) (fun w _ => Bm.specHas b i w hb) Tryd.call18
def c_WithS (b i : Int) : CFD := ⟨53, [(SV.one (.lit (.int .i64 (b)))), (SV.one (.lit (.int .i64 (i))))], [], (TV.sv (.one (.lit (.int .i64 (Bm.set b i))))), [], [], []⟩
theorem fn_WithS (b i : Int) (hb : b ≤ 9223372036854775807) : Fn Tryd.prog (c_WithS b i) := fn_numP (vs := [.int .i64 b, .int .i64 i]) (fun w _ => Bm.specWith b i w hb) Tryd.call53
def c_CountS (b : Int) : CFD := ⟨17, [(SV.one (.lit (.int .i64 (b))))], [], (TV.sv (.one (.lit (.int .i64 (Bm.count b))))), [], [], []⟩
theorem fn_CountS (b : Int) (hb : b ≤ 9223372036854775807) : Fn Tryd.prog (c_CountS b) := fn_numP (vs := [.int .i64 b]) (fun w _ => Bm.specCount b w hb) Tryd.call17
def c_SlotsS (k : Int) : CFD := ⟨20, [(SV.one (.lit (.int .i64 (k))))], [], (TV.sv (.one (.lit (.int .i64 (Cl.slots k))))), [], [], []⟩
theorem fn_SlotsS (k : Int) : Fn Tryd.prog (c_SlotsS k) := fn_numP (vs := [.int .i64 k]) (fun w _ => Cl.specSlotsOf k w) Tryd.call20
end Eng
end Go.Proofs.YtmeahaaibncmmaaDoor

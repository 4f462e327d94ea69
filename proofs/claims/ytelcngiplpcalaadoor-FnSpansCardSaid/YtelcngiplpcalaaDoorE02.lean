/- Chapters 2 to 4: the specification's functions, for the symbolic run. -/
import Derived.Test.YtelcngiplpcalaaDoorESt
import Derived.Test.YtelcngiplpcalaaDoorBitLists
import Derived.Test.YtelcngiplpcalaaDoorClassSpec
import Derived.Test.YtelcngiplpcalaaDoorSeeds
namespace Go.Proofs.YtelcngiplpcalaaDoor
open Go.RowKit
set_option linter.unusedVariables false
set_option linter.unusedSimpArgs false
set_option maxRecDepth 100000
namespace Eng
open Tr
def c_BmOkS (n b : Int) : CFD := ⟨55, [(SV.one (.lit (.int .i64 (n)))), (SV.one (.lit (.int .i64 (b))))], [], (TV.sv (.one (.lit (.bool (Bm.isMap n b))))), [], [], []⟩
theorem fn_BmOkS (n b : Int) : Fn Tryd.prog (c_BmOkS n b) := fn_boolP (vs := [.int .i64 n, .int .i64 b]) (fun w _ => Bm.specOk n b w) Tryd.call55
def c_HasS (b i : Int) : CFD := ⟨18, [(SV.one (.lit (.int .i64 (b)))), (SV.one (.lit (.int .i64 (i))))], [], (TV.sv (.one (.lit (.bool (Bm.has b i))))), [], [], []⟩
theorem fn_HasS (b i : Int) (hb : b ≤ 9223372036854775807) : Fn Tryd.prog (c_HasS b i) := fn_boolP (vs := [.int .i64 b, .int .i64 i]) (fun w _ => Bm.specHas b i w hb) Tryd.call18
def c_WithS (b i : Int) : CFD := ⟨58, [(SV.one (.lit (.int .i64 (b)))), (SV.one (.lit (.int .i64 (i))))], [], (TV.sv (.one (.lit (.int .i64 (Bm.set b i))))), [], [], []⟩
theorem fn_WithS (b i : Int) (hb : b ≤ 9223372036854775807) : Fn Tryd.prog (c_WithS b i) := fn_numP (vs := [.int .i64 b, .int .i64 i]) (fun w _ => Bm.specWith b i w hb) Tryd.call58
def c_WithoutS (b i : Int) : CFD := ⟨59, [(SV.one (.lit (.int .i64 (b)))), (SV.one (.lit (.int .i64 (i))))], [], (TV.sv (.one (.lit (.int .i64 (Bm.unset b i))))), [], [], []⟩
theorem fn_WithoutS (b i : Int) (hb : b ≤ 9223372036854775807) : Fn Tryd.prog (c_WithoutS b i) := fn_numP (vs := [.int .i64 b, .int .i64 i]) (fun w _ => Bm.specWithout b i w hb) Tryd.call59
def c_CountS (b : Int) : CFD := ⟨26, [(SV.one (.lit (.int .i64 (b))))], [], (TV.sv (.one (.lit (.int .i64 (Bm.count b))))), [], [], []⟩
theorem fn_CountS (b : Int) (hb : b ≤ 9223372036854775807) : Fn Tryd.prog (c_CountS b) := fn_numP (vs := [.int .i64 b]) (fun w _ => Bm.specCount b w hb) Tryd.call26
def c_SlotsS (k : Int) : CFD := ⟨21, [(SV.one (.lit (.int .i64 (k))))], [], (TV.sv (.one (.lit (.int .i64 (Cl.slots k))))), [], [], []⟩
theorem fn_SlotsS (k : Int) : Fn Tryd.prog (c_SlotsS k) := fn_numP (vs := [.int .i64 k]) (fun w _ => Cl.specSlotsOf k w) Tryd.call21
def c_CszS (k : Int) : CFD := ⟨22, [(SV.one (.lit (.int .i64 (k))))], [], (TV.sv (.one (.lit (.int .i64 (Cl.csz k))))), [], [], []⟩
theorem fn_CszS (k : Int) : Fn Tryd.prog (c_CszS k) := fn_numP (vs := [.int .i64 k]) (fun w _ => Cl.specClassSize k w) Tryd.call22
def c_NextS (s : Int) : CFD := ⟨20, [(SV.one (.lit (.int .i64 (s))))], [], (TV.sv (.one (.lit (.int .i64 (Sd.nextN s))))), [], [], []⟩
theorem fn_NextS (s : Int) : Fn Tryd.prog (c_NextS s) := fn_numP (vs := [.int .i64 s]) (fun w _ => Sd.specNext s w) Tryd.call20
def c_ChooseS (s n : Int) : CFD := ⟨57, [(SV.one (.lit (.int .i64 (s)))), (SV.one (.lit (.int .i64 (n))))], [], .tup [(SV.one (.lit (.int .i64 (Sd.pickK s n)))), (SV.one (.lit (.int .i64 (Sd.pickS s n))))], [], [], []⟩
theorem fn_ChooseS (s n : Int) : Fn Tryd.prog (c_ChooseS s n) := fn_pairP (vs := [.int .i64 s, .int .i64 n]) (fun w _ => Sd.specChoose s n w) Tryd.call57
end Eng
end Go.Proofs.YtelcngiplpcalaaDoor

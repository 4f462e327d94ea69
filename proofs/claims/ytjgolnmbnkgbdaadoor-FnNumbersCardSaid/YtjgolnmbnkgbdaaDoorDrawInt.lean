/- The number that DrawFormatInt draws is a whole number of 64 bits; nothing that was there is written. -/
import Derived.Test.YtjgolnmbnkgbdaaDoorDraw
namespace Go.Proofs.YtjgolnmbnkgbdaaDoor
open Go.RowKit
namespace Dr
theorem Step.stays {w w1 w2 : World} {a : Option Addr} {len cap : Nat} {zs : List Int} (h : Below w.heap.size w w1) (s : Step w1 w2 w.heap.size a len cap zs) : Below w.heap.size w w2 :=
  h.grown s.grown h.size (fun k hk => by cases hk; omega)
def DrawIntP (w : World) (e : Ending) (w' : World) : Prop :=
  ∃ x : Int, (Lit.int .i64 x).wf = true ∧ e = .returned (.int .i64 x) ∧ Below w.heap.size w w'
theorem drawFormatInt {w : World} {a : Option Addr} {len cap : Nat} {zs : List Int} (hr : IsRow .u8 w a len cap zs) (hlen : len ≤ 1048576) :
    Calls Tryd.prog 13 #[.slice a len cap] w (DrawIntP w) := by
  have HR := Lib.hid hr; clear hr
  go_enter Tryd.func13, Tryd.ntmps13
  go_wp2_with fail
  refine (new HR.out hlen).mono ?_
  rintro e w1 ⟨rfl, hb1, hs1⟩
  have HB := Lib.hid hb1; clear hb1
  have H1 := Lib.hid hs1; clear hs1
  go_wp2_with fail
  refine (once H1.out _).mono ?_
  rintro e w2 ⟨b, rfl, hst⟩
  have H2 := Lib.hid hst; clear hst
  cases b
  · go_wp2_with fail
    refine (number H2.out.src).mono ?_
    rintro e w3 ⟨x, hx, rfl, hst⟩
    have H3 := Lib.hid (H2.out.trans hst); clear hst
    have HX1 := Lib.hid hx; clear hx
    go_wp2
    go_ret
    exact ⟨x, HX1.out, rfl, Step.stays HB.out H3.out⟩
  · go_wp2_with fail
    refine (below H2.out.src _).mono ?_
    rintro e w3 ⟨x, hx0, hx1, _, rfl, hst⟩
    clear hx1
    have H3 := Lib.hid (H2.out.trans hst); clear hst
    go_wp2_with fail
    refine (below H3.out.src _).mono ?_
    rintro e w4 ⟨y, hy0, hy1, _, rfl, hst⟩
    have hy2 : y < 2000000 := hy1 (by omega)
    clear hy1
    have H4 := Lib.hid (H3.out.trans hst); clear hst
    go_wp2
    go_ret
    exact ⟨_, by go_wf2, rfl, Step.stays HB.out H4.out⟩
end Dr
end Go.Proofs.YtjgolnmbnkgbdaaDoor

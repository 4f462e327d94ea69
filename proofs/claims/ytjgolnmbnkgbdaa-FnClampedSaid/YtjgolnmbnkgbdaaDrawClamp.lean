/- The three numbers that DrawClamp draws are whole numbers of 64 bits; nothing that was there is written. -/
import Derived.Test.YtjgolnmbnkgbdaaDraw
namespace Go.Proofs.Ytjgolnmbnkgbdaa
open Go.RowKit
namespace Dr
def DrawClampP (w : World) (e : Ending) (w' : World) : Prop :=
  ∃ x y z : Int, (Lit.int .i64 x).wf = true ∧ (Lit.int .i64 y).wf = true ∧ (Lit.int .i64 z).wf = true ∧ e = .returned (.tuple #[.int .i64 x, .int .i64 y, .int .i64 z]) ∧ Below w.heap.size w w'
theorem Step.below {w w1 w2 : World} {a : Option Addr} {len cap : Nat} {zs : List Int} (h : Below w.heap.size w w1) (s : Step w1 w2 w.heap.size a len cap zs) : Below w.heap.size w w2 :=
  h.grown s.grown h.size (fun k hk => by cases hk; omega)
theorem drawClamp {w : World} {a : Option Addr} {len cap : Nat} {zs : List Int} (hr : IsRow .u8 w a len cap zs) (hlen : len ≤ 1048576) :
    Calls Try.prog 9 #[.slice a len cap] w (DrawClampP w) := by
  have HR := Lib.hid hr; clear hr
  go_enter Try.func9, Try.ntmps9
  go_wp2_with fail
  refine (new HR.out hlen).mono ?_
  rintro e w1 ⟨rfl, hb1, hs1⟩
  have HB := Lib.hid hb1; clear hb1
  have H1 := Lib.hid hs1; clear hs1
  go_wp2_with fail
  refine (once H1.out _).mono ?_
  rintro e w2 ⟨b, rfl, hst⟩
  have H2 := Lib.hid hst; clear hst
  cases b
  · go_wp2_with fail
    refine (below H2.out.src _).mono ?_
    rintro e w3 ⟨x, hx0, hx1, _, rfl, hst⟩
    have hx2 : x < 40 := hx1 (by omega)
    clear hx1
    have H3 := Lib.hid (H2.out.trans hst); clear hst
    go_wp2_with fail
    refine (below H3.out.src _).mono ?_
    rintro e w4 ⟨y, hy0, hy1, _, rfl, hst⟩
    have hy2 : y < 80 := hy1 (by omega)
    clear hy1
    have H4 := Lib.hid (H3.out.trans hst); clear hst
    go_wp2_with fail
    refine (below H4.out.src _).mono ?_
    rintro e w5 ⟨z, hz0, hz1, _, rfl, hst⟩
    have hz2 : z < 30 := hz1 (by omega)
    clear hz1
    have H5 := Lib.hid (H4.out.trans hst); clear hst
    go_wp2
    go_ret3
    refine ⟨_, _, _, ?_, ?_, ?_, rfl, Step.below HB.out H5.out⟩ <;> go_wf2
  · go_wp2_with fail
    refine (number H2.out.src).mono ?_
    rintro e w3 ⟨x, hx, rfl, hst⟩
    have H3 := Lib.hid (H2.out.trans hst); clear hst
    have HX1 := Lib.hid hx; clear hx
    go_wp2_with fail
    refine (number H3.out.src).mono ?_
    rintro e w4 ⟨y, hy, rfl, hst⟩
    have H4 := Lib.hid (H3.out.trans hst); clear hst
    have HY1 := Lib.hid hy; clear hy
    go_wp2_with fail
    refine (number H4.out.src).mono ?_
    rintro e w5 ⟨z, hz, rfl, hst⟩
    have H5 := Lib.hid (H4.out.trans hst); clear hst
    have HZ1 := Lib.hid hz; clear hz
    go_wp2
    go_ret3
    exact ⟨x, y, z, HX1.out, HY1.out, HZ1.out, rfl, Step.below HB.out H5.out⟩
end Dr
end Go.Proofs.Ytjgolnmbnkgbdaa

/- A world that holds the listed package-level variables as the program's text lays them, and what a row's list gives. -/
import Derived.Test.YtbggkniebolhnaaDoorRows
import Derived.Deep.DeepHandedRow
import Derived.Lib.LaidTab
import Derived.WalkSmall
import Derived.ProofKit
import Derived.OpenVars
namespace Go.Proofs.YtbggkniebolhnaaDoor
open Go.RowKit
namespace Laid
def put (h : Array Obj) (g : Nat) (cs : Array Value) : Array Obj := h.modify g fun
  | .cells _ t frozen => .cells cs t frozen
  | o => o
noncomputable def world (os : Os) : World :=
  let w0 := World.holding Tryd.prog os ⟨#[], #[], []⟩
  let h0 := put w0.heap 0 #[.int .i64 1, .int .i64 2, .int .i64 4, .int .i64 8]
  { w0 with heap := h0 }
theorem lt_of_var {P : Program} {w : World} {n : String} {g : Nat} {cs : Array Value} (hg : P.globalNamed n = some g) (h : w.var? P n = some cs) : g < w.heap.size := by
  unfold World.var? at h
  simp only [hg, Option.bind_some] at h
  rcases Nat.lt_or_ge g w.heap.size with h1 | h1
  · exact h1
  · simp [Array.getElem?_eq_none h1] at h
theorem laidOut : laidOutB Tryd.prog = true := by kernel_rfl
theorem vars_len {H : Type} {enc : TypeId × Value → H} {P : Program} {w : World} {sp : Nat → Bool} : ∀ {ns : List String} {gs : List (DataW H)} {ps : List MemPlace}, DataW.TrodVars enc P w sp ns gs ps → gs.length = ns.length
  | [], [], _, _ => rfl
  | [], _ :: _, _, h => h.elim
  | _ :: _, [], _, h => h.elim
  | _ :: _, _ :: _, _, h => by obtain ⟨_, _, _, _, _, _, _, _, _, _, h2, _⟩ := h; exact congrArg Nat.succ (vars_len h2)
theorem vars1 {H : Type} {enc : TypeId × Value → H} {P : Program} {w : World} {sp : Nat → Bool} {a : String} {gs : List (DataW H)} {ps : List MemPlace} (h : DataW.TrodVars enc P w sp [a] gs ps) : ∃ x, gs = [x] := List.length_eq_one_iff.1 (vars_len h)
theorem vars2 {H : Type} {enc : TypeId × Value → H} {P : Program} {w : World} {sp : Nat → Bool} {a b : String} {gs : List (DataW H)} {ps : List MemPlace} (h : DataW.TrodVars enc P w sp [a, b] gs ps) : ∃ x y, gs = [x, y] := by
  have e := vars_len h
  match gs, e with
  | [x, y], _ => exact ⟨x, y, rfl⟩
theorem vars3 {H : Type} {enc : TypeId × Value → H} {P : Program} {w : World} {sp : Nat → Bool} {a b c : String} {gs : List (DataW H)} {ps : List MemPlace} (h : DataW.TrodVars enc P w sp [a, b, c] gs ps) : ∃ x y z, gs = [x, y, z] := by
  have e := vars_len h
  match gs, e with
  | [x, y, z], _ => exact ⟨x, y, z, rfl⟩
def tab_classSizes : List Int := [1, 2, 4, 8]
theorem g_classSizes : Tryd.prog.globalNamed "loop.example/g00978/impl.classSizes" = some 0 := by kernel_rfl
theorem ty_classSizes : (Tryd.prog.globals[0]?).map (·.type) = some 31 := by kernel_rfl
theorem arr_classSizes : Tryd.prog.cellsOf 31 = 4 := by kernel_rfl
theorem el_classSizes : Tryd.prog.cellsOf 3 = 1 := by kernel_rfl
theorem list_classSizes {H : Type} : (Rows.laid_loop_example_g00978_impl_classSizes : DataW H) = Lib.tabData .i64 tab_classSizes := by kernel_rfl
structure LClassSizes (w : World) : Prop where
  classSizes : Lib.TabIs Tryd.prog w "loop.example/g00978/impl.classSizes" .i64 tab_classSizes
theorem LClassSizes.below {w w' : World} (h : LClassSizes w) (hb : Below w.heap.size w w') : LClassSizes w' :=
  { classSizes := var?_below hb g_classSizes (lt_of_var g_classSizes h.classSizes) h.classSizes }
theorem has_0 {W : World} (h : laidMetH Tryd.prog [("loop.example/g00978/impl.classSizes", Rows.laid_loop_example_g00978_impl_classSizes)] W) : LClassSizes W := by
  have h' : laidMet Tryd.prog [("loop.example/g00978/impl.classSizes", Rows.laid_loop_example_g00978_impl_classSizes)] W := h
  have t_classSizes := h'
  rw [list_classSizes] at t_classSizes
  have f_classSizes := Lib.tabIs_of_head g_classSizes ty_classSizes Tryd.underlying31 Tryd.underlying3 el_classSizes arr_classSizes t_classSizes
  exact { classSizes := f_classSizes }
end Laid
end Go.Proofs.YtbggkniebolhnaaDoor

/- A world that holds the listed package-level variables as the program's text lays them, and what a row's list gives. -/
import Derived.Test.YthkjbjgpdapnpaaDoorRows
import Derived.Deep.DeepHandedRow
import Derived.Lib.LaidTab
import Derived.Stop.LaidErr
import Derived.WalkSmall
import Derived.ProofKit
import Derived.OpenVars
namespace Go.Proofs.YthkjbjgpdapnpaaDoor
open Go.RowKit
namespace Laid
def put (h : Array Obj) (g : Nat) (cs : Array Value) : Array Obj := h.modify g fun
  | .cells _ t frozen => .cells cs t frozen
  | o => o
noncomputable def world (os : Os) : World :=
  let w0 := World.holding Tryd.prog os ⟨#[], #[], []⟩
  let h0 := put w0.heap 1 #[.int .i64 1, .int .i64 2, .int .i64 4, .int .i64 8, .int .i64 16, .int .i64 32, .int .i64 64, .int .i64 128, .int .i64 256, .int .i64 512, .int .i64 1024, .int .i64 2048, .int .i64 4096, .int .i64 8192, .int .i64 16384, .int .i64 32768]
  let h1 := put h0 0 #[.int .i64 1, .int .i64 2, .int .i64 4, .int .i64 8]
  { w0 with heap := h1 }
theorem lt_of_var {P : Program} {w : World} {n : String} {g : Nat} {cs : Array Value} (hg : P.globalNamed n = some g) (h : w.var? P n = some cs) : g < w.heap.size := by
  unfold World.var? at h
  simp only [hg, Option.bind_some] at h
  rcases Nat.lt_or_ge g w.heap.size with h1 | h1
  · exact h1
  · simp [Array.getElem?_eq_none h1] at h
theorem laidOut : laidOutB Tryd.prog = true := by kernel_rfl
theorem vars_len {H : Type} {enc : TypeId × Value → H} {P : Program} {w : World} {sp : Nat → Bool} : ∀ {ns : List String} {gs : List (DataW H)} {ps : List MemPlace}, DataW.TrodVars enc P w sp ns gs ps → gs.length = ns.length
  | [], [], _, _ => rfl
  | [], _ :: _, _, h => h.elim
  | _ :: _, [], _, h => h.elim
  | _ :: _, _ :: _, _, h => by obtain ⟨_, _, _, _, _, _, _, _, _, _, h2, _⟩ := h; exact congrArg Nat.succ (vars_len h2)
theorem vars1 {H : Type} {enc : TypeId × Value → H} {P : Program} {w : World} {sp : Nat → Bool} {a : String} {gs : List (DataW H)} {ps : List MemPlace} (h : DataW.TrodVars enc P w sp [a] gs ps) : ∃ x, gs = [x] := List.length_eq_one_iff.1 (vars_len h)
theorem vars2 {H : Type} {enc : TypeId × Value → H} {P : Program} {w : World} {sp : Nat → Bool} {a b : String} {gs : List (DataW H)} {ps : List MemPlace} (h : DataW.TrodVars enc P w sp [a, b] gs ps) : ∃ x y, gs = [x, y] := by
  have e := vars_len h
  match gs, e with
  | [x, y], _ => exact ⟨x, y, rfl⟩
theorem vars3 {H : Type} {enc : TypeId × Value → H} {P : Program} {w : World} {sp : Nat → Bool} {a b c : String} {gs : List (DataW H)} {ps : List MemPlace} (h : DataW.TrodVars enc P w sp [a, b, c] gs ps) : ∃ x y z, gs = [x, y, z] := by
  have e := vars_len h
  match gs, e with
  | [x, y, z], _ => exact ⟨x, y, z, rfl⟩
def tab_slotMasks : List Int := [1, 2, 4, 8, 16, 32, 64, 128, 256, 512, 1024, 2048, 4096, 8192, 16384, 32768]
theorem g_slotMasks : Tryd.prog.globalNamed "loop.example/g00978/impl.slotMasks" = some 1 := by kernel_rfl
theorem ty_slotMasks : (Tryd.prog.globals[1]?).map (·.type) = some 73 := by kernel_rfl
theorem arr_slotMasks : Tryd.prog.cellsOf 73 = 16 := by kernel_rfl
theorem el_slotMasks : Tryd.prog.cellsOf 3 = 1 := by kernel_rfl
theorem list_slotMasks {H : Type} : (Rows.laid_loop_example_g00978_impl_slotMasks : DataW H) = Lib.tabData .i64 tab_slotMasks := by kernel_rfl
def tab_classSizes : List Int := [1, 2, 4, 8]
theorem g_classSizes : Tryd.prog.globalNamed "loop.example/g00978/impl.classSizes" = some 0 := by kernel_rfl
theorem ty_classSizes : (Tryd.prog.globals[0]?).map (·.type) = some 67 := by kernel_rfl
theorem arr_classSizes : Tryd.prog.cellsOf 67 = 4 := by kernel_rfl
theorem el_classSizes : Tryd.prog.cellsOf 3 = 1 := by kernel_rfl
theorem list_classSizes {H : Type} : (Rows.laid_loop_example_g00978_impl_classSizes : DataW H) = Lib.tabData .i64 tab_classSizes := by kernel_rfl
structure LSlotMasksClassSizes (w : World) : Prop where
  slotMasks : Lib.TabIs Tryd.prog w "loop.example/g00978/impl.slotMasks" .i64 tab_slotMasks
  classSizes : Lib.TabIs Tryd.prog w "loop.example/g00978/impl.classSizes" .i64 tab_classSizes
theorem LSlotMasksClassSizes.below {w w' : World} (h : LSlotMasksClassSizes w) (hb : Below w.heap.size w w') : LSlotMasksClassSizes w' :=
  { slotMasks := var?_below hb g_slotMasks (lt_of_var g_slotMasks h.slotMasks) h.slotMasks, classSizes := var?_below hb g_classSizes (lt_of_var g_classSizes h.classSizes) h.classSizes }
theorem has_0 {W : World} (h : laidMetH Tryd.prog [("loop.example/g00978/impl.slotMasks", Rows.laid_loop_example_g00978_impl_slotMasks), ("loop.example/g00978/impl.classSizes", Rows.laid_loop_example_g00978_impl_classSizes)] W) : LSlotMasksClassSizes W := by
  have h' : laidMet Tryd.prog [("loop.example/g00978/impl.slotMasks", Rows.laid_loop_example_g00978_impl_slotMasks), ("loop.example/g00978/impl.classSizes", Rows.laid_loop_example_g00978_impl_classSizes)] W := h
  have t_slotMasks := h'
  rw [list_slotMasks] at t_slotMasks
  have f_slotMasks := Lib.tabIs_of_head g_slotMasks ty_slotMasks Tryd.underlying73 Tryd.underlying3 el_slotMasks arr_slotMasks t_slotMasks
  have t_classSizes := h'.tail
  rw [list_classSizes] at t_classSizes
  have f_classSizes := Lib.tabIs_of_head g_classSizes ty_classSizes Tryd.underlying67 Tryd.underlying3 el_classSizes arr_classSizes t_classSizes
  exact { slotMasks := f_slotMasks, classSizes := f_classSizes }
end Laid
end Go.Proofs.YthkjbjgpdapnpaaDoor

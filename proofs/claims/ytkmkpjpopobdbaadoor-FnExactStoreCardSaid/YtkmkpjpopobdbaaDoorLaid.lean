/- A world that holds the listed package-level variables as the program's text lays them, and what a row's list gives. -/
import Derived.Test.YtkmkpjpopobdbaaDoorRows
import Derived.Deep.DeepHandedRow
import Derived.Lib.LaidTab
import Derived.Test.YtkmkpjpopobdbaaDoorLaidS
import Derived.WalkSmall
import Derived.ProofKit
import Derived.OpenVars
namespace Go.Proofs.YtkmkpjpopobdbaaDoor
open Go.RowKit
namespace Laid
def put (h : Array Obj) (g : Nat) (cs : Array Value) : Array Obj := h.modify g fun
  | .cells _ t frozen => .cells cs t frozen
  | o => o
noncomputable def world (os : Os) : World :=
  let w0 := World.holding Tryd.prog os ⟨#[.cells #[.string ⟨#[110, 111, 32, 112, 97, 103, 101, 32, 105, 115, 32, 109, 97, 112, 112, 101, 100, 32, 97, 116, 32, 116, 104, 101, 32, 97, 100, 100, 114, 101, 115, 115]⟩] 159, .cells #[.string ⟨#[116, 104, 101, 32, 112, 97, 103, 101, 32, 105, 115, 32, 109, 97, 112, 112, 101, 100, 32, 102, 111, 114, 32, 114, 101, 97, 100, 105, 110, 103, 32, 111, 110, 108, 121]⟩] 159, .cells #[.string ⟨#[116, 104, 101, 32, 118, 97, 108, 117, 101, 32, 105, 115, 32, 111, 117, 116, 32, 111, 102, 32, 114, 97, 110, 103, 101]⟩] 159], #[], []⟩
  let h0 := put w0.heap 2 #[.iface 133 (.pointer (some ⟨(World.settled Tryd.prog os).heap.size + 0, 0, none⟩))]
  let h1 := put h0 0 #[.iface 133 (.pointer (some ⟨(World.settled Tryd.prog os).heap.size + 1, 0, none⟩))]
  let h2 := put h1 1 #[.iface 133 (.pointer (some ⟨(World.settled Tryd.prog os).heap.size + 2, 0, none⟩))]
  { w0 with heap := h2 }
theorem lt_of_var {P : Program} {w : World} {n : String} {g : Nat} {cs : Array Value} (hg : P.globalNamed n = some g) (h : w.var? P n = some cs) : g < w.heap.size := by
  unfold World.var? at h
  simp only [hg, Option.bind_some] at h
  rcases Nat.lt_or_ge g w.heap.size with h1 | h1
  · exact h1
  · simp [Array.getElem?_eq_none h1] at h
theorem laidOut : laidOutB Tryd.prog = true := by kernel_rfl
theorem vars_len {H : Type} {enc : TypeId × Value → H} {P : Program} {w : World} {sp : Nat → Bool} : ∀ {ns : List String} {gs : List (DataW H)} {ps : List MemPlace}, DataW.TrodVars enc P w sp ns gs ps → gs.length = ns.length
  | [], [], _, _ => rfl
  | [], _ :: _, _, h => h.elim
  | _ :: _, [], _, h => h.elim
  | _ :: _, _ :: _, _, h => by obtain ⟨_, _, _, _, _, _, _, _, _, _, h2, _⟩ := h; exact congrArg Nat.succ (vars_len h2)
theorem vars1 {H : Type} {enc : TypeId × Value → H} {P : Program} {w : World} {sp : Nat → Bool} {a : String} {gs : List (DataW H)} {ps : List MemPlace} (h : DataW.TrodVars enc P w sp [a] gs ps) : ∃ x, gs = [x] := List.length_eq_one_iff.1 (vars_len h)
theorem vars2 {H : Type} {enc : TypeId × Value → H} {P : Program} {w : World} {sp : Nat → Bool} {a b : String} {gs : List (DataW H)} {ps : List MemPlace} (h : DataW.TrodVars enc P w sp [a, b] gs ps) : ∃ x y, gs = [x, y] := by
  have e := vars_len h
  match gs, e with
  | [x, y], _ => exact ⟨x, y, rfl⟩
theorem vars3 {H : Type} {enc : TypeId × Value → H} {P : Program} {w : World} {sp : Nat → Bool} {a b c : String} {gs : List (DataW H)} {ps : List MemPlace} (h : DataW.TrodVars enc P w sp [a, b, c] gs ps) : ∃ x y z, gs = [x, y, z] := by
  have e := vars_len h
  match gs, e with
  | [x, y, z], _ => exact ⟨x, y, z, rfl⟩
theorem star : "*" ++ "errors.errorString" = "*errors.errorString" := by decide
theorem rowStar (u : TypeId) (h : Tryd.prog.typeName? 3 u = some "*errors.errorString") : u = 133 :=
  typeName_ptr_named (nm := "errors.errorString") (by rw [star]; kernel_rfl) (by kernel_rfl) (by decide) u (by rw [star]; exact h)
structure LErrPage (w : World) : Prop where
  sents : LaidS.At 133 [2] w
theorem LErrPage.below {w w' : World} (h : LErrPage w) (hb : Below w.heap.size w w') : LErrPage w' :=
  { sents := h.sents.below hb }
theorem has_0 {W : World} (h : laidMetH Tryd.prog [("loop.example/g00978/impl.errPage", Rows.laid_loop_example_g00978_impl_errPage)] W) : LErrPage W := by
  have h' : laidMet Tryd.prog [("loop.example/g00978/impl.errPage", Rows.laid_loop_example_g00978_impl_errPage)] W := h
  have f_sents := LaidS.at_of (L := [("loop.example/g00978/impl.errPage", [110, 111, 32, 112, 97, 103, 101, 32, 105, 115, 32, 109, 97, 112, 112, 101, 100, 32, 97, 116, 32, 116, 104, 101, 32, 97, 100, 100, 114, 101, 115, 115], 2)]) (r := []) h' Tryd.underlying65 rowStar Tryd.underlying133 Tryd.underlying159 rfl rfl Tryd.underlying9 (by kernel_rfl) (by kernel_rfl) (by intro x hx; simp only [List.mem_cons, List.not_mem_nil, or_false] at hx; rcases hx with rfl <;> exact ⟨by kernel_rfl, by kernel_rfl⟩)
  exact { sents := f_sents }
structure LErrPageErrWriteErrValue (w : World) : Prop where
  sents : LaidS.At 133 [2, 0, 1] w
theorem LErrPageErrWriteErrValue.below {w w' : World} (h : LErrPageErrWriteErrValue w) (hb : Below w.heap.size w w') : LErrPageErrWriteErrValue w' :=
  { sents := h.sents.below hb }
theorem has_1 {W : World} (h : laidMetH Tryd.prog [("loop.example/g00978/impl.errPage", Rows.laid_loop_example_g00978_impl_errPage), ("loop.example/g00978/impl.errWrite", Rows.laid_loop_example_g00978_impl_errWrite), ("loop.example/g00978/impl.errValue", Rows.laid_loop_example_g00978_impl_errValue)] W) : LErrPageErrWriteErrValue W := by
  have h' : laidMet Tryd.prog [("loop.example/g00978/impl.errPage", Rows.laid_loop_example_g00978_impl_errPage), ("loop.example/g00978/impl.errWrite", Rows.laid_loop_example_g00978_impl_errWrite), ("loop.example/g00978/impl.errValue", Rows.laid_loop_example_g00978_impl_errValue)] W := h
  have f_sents := LaidS.at_of (L := [("loop.example/g00978/impl.errPage", [110, 111, 32, 112, 97, 103, 101, 32, 105, 115, 32, 109, 97, 112, 112, 101, 100, 32, 97, 116, 32, 116, 104, 101, 32, 97, 100, 100, 114, 101, 115, 115], 2), ("loop.example/g00978/impl.errWrite", [116, 104, 101, 32, 112, 97, 103, 101, 32, 105, 115, 32, 109, 97, 112, 112, 101, 100, 32, 102, 111, 114, 32, 114, 101, 97, 100, 105, 110, 103, 32, 111, 110, 108, 121], 0), ("loop.example/g00978/impl.errValue", [116, 104, 101, 32, 118, 97, 108, 117, 101, 32, 105, 115, 32, 111, 117, 116, 32, 111, 102, 32, 114, 97, 110, 103, 101], 1)]) (r := []) h' Tryd.underlying65 rowStar Tryd.underlying133 Tryd.underlying159 rfl rfl Tryd.underlying9 (by kernel_rfl) (by kernel_rfl) (by intro x hx; simp only [List.mem_cons, List.not_mem_nil, or_false] at hx; rcases hx with rfl | rfl | rfl <;> exact ⟨by kernel_rfl, by kernel_rfl⟩)
  exact { sents := f_sents }
end Laid
end Go.Proofs.YtkmkpjpopobdbaaDoor

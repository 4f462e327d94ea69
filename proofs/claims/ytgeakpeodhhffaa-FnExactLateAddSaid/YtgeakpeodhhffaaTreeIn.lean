/- Arguments that came in, as data of the law's own types. No program. -/
import Derived.Test.YtgeakpeodhhffaaTreeOps
import Derived.Deep.Slices
import Derived.ChangeArms
import Derived.ChangeShapes
import Derived.RowKit
namespace Go.Proofs.Ytgeakpeodhhffaa
open Go.RowKit Go.ChangeShapes Go.WideShapes
set_option linter.unusedVariables false
namespace Tr
section
variable {H : Type} (enc : TypeId × Value → H) (P : Program) (w : World) (base : Nat) (spare : Nat → Bool) (held : Bool)
def Opens (t : TypeId) {α : Type} (E : α → D) (Ok : α → Prop) : Prop := ∀ fuel cs x, DataW.trod enc P w base spare held fuel t cs = some x → ∃ a, Raw w (E a) cs ∧ Ok a
end
section
variable {H : Type} {enc : TypeId × Value → H} {P : Program} {w : World} {base : Nat} {spare : Nat → Bool} {held : Bool}
def okI (n : Int) : Prop := -9223372036854775808 ≤ n ∧ n ≤ 9223372036854775807
theorem okI_wf {n : Int} (h : (Lit.int .i64 n).wf = true) : okI n := by
  simpa [Lit.wf, IntKind.min, IntKind.max, IntKind.signed, IntKind.bits, okI] using h
theorem opens_int {t : TypeId} (ht : P.underlying t = some (.int .i64)) : Opens enc P w base spare held t eI okI := by
  intro fuel cs x h
  obtain ⟨n, rfl, _, hw⟩ := DataW.trod_int ht h
  exact ⟨n, ⟨_, rfl, rfl⟩, okI_wf hw⟩
theorem opens_bool {t : TypeId} (ht : P.underlying t = some .bool) : Opens enc P w base spare held t eB (fun _ => True) := by
  intro fuel cs x h
  obtain ⟨b, rfl, _⟩ := DataW.trod_bool ht h
  exact ⟨b, ⟨_, rfl, rfl⟩, trivial⟩
theorem opens_string {t : TypeId} (ht : P.underlying t = some .string) : Opens enc P w base spare held t eS (fun s => s.size ≤ maxLen) := by
  intro fuel cs x h
  obtain ⟨s, rfl, _, hm⟩ := DataW.trod_string ht h
  exact ⟨s, ⟨_, rfl, rfl⟩, hm⟩
theorem raw_build {α : Type} {E : α → D} {Ok : α → Prop} {k : Nat} {a : Addr} (hE : ∀ x, (E x).len = k) : ∀ n, (∀ i, i < n → ∃ cs, w.cells? base (a.add (i * k)) k = some cs ∧ ∃ x, Raw w (E x) cs ∧ Ok x) →
    ∃ (l : List α) (us : List Value), l.length = n ∧ us.length = n * k ∧ (∀ j, j < n * k → w.cell? (a.add j) = us[j]?) ∧ Raw w (D.cat (l.map E)) us ∧ ∀ x ∈ l, Ok x
  | 0, _ => ⟨[], [], rfl, by simp, fun j hj => by omega, rfl, fun x hx => by cases hx⟩
  | n + 1, h => by
    obtain ⟨l, us, h1, h2, h3, h4, h5⟩ := raw_build hE n (fun i hi => h i (by omega))
    obtain ⟨cs, hc, x, hx, hok⟩ := h n (by omega)
    obtain ⟨_, hcl, hcat⟩ := World.cells?_some hc
    have hs : (n + 1) * k = n * k + k := Nat.succ_mul _ _
    refine ⟨l ++ [x], us ++ cs, by simp [h1], by rw [List.length_append, h2, hcl, hs], fun j hj => ?_, ?_, fun y hy => ?_⟩
    · by_cases hj2 : j < n * k
      · rw [h3 j hj2, List.getElem?_append_left (by omega)]
      · have e := hcat (j - n * k) (by omega)
        rw [Go.Deep.add_add, show n * k + (j - n * k) = j by omega] at e
        rw [e, List.getElem?_append_right (by omega), h2]
    · rw [List.map_append, D.cat_append]
      refine (raw_app _ _).2 ⟨us, cs, rfl, h4, ?_⟩
      show Raw w ((E x).app .nil) cs
      rw [D.app_nil]
      exact hx
    · rw [List.mem_append] at hy
      rcases hy with hy | hy
      · exact h5 y hy
      · obtain rfl : y = x := by simpa using hy
        exact hok
theorem opens_slice {t e : TypeId} {T k : Nat} {α : Type} {E : α → D} {Ok : α → Prop} (ht : P.underlying t = some (.slice e)) (hk : P.cellsOf e = k) (hE : ∀ x, (E x).len = k) (he : Opens enc P w base spare held e E Ok) :
    Opens enc P w base spare held t (rowD T k E) (fun l => ∀ x ∈ l, Ok x) := by
  intro fuel cs x h
  rcases Go.Deep.open_slice ht h with ⟨rfl, _⟩ | ⟨a, len, cap, m, n, Dt, Pl, rfl, hb, hl, hm, hmm, _, hi⟩
  · exact ⟨[], ⟨_, _, rfl, rfl, Or.inl ⟨rfl, rfl, rfl⟩⟩, fun x hx => by cases hx⟩
  · rw [hk] at hi
    have hml : len ≤ m := by rw [hmm]; split <;> omega
    obtain ⟨l, us, h1, h2, h3, h4, h5⟩ := raw_build (w := w) (base := base) (a := a) (Ok := Ok) hE len (fun i hi' => by
      obtain ⟨cs', hc, ht'⟩ := hi i (by omega)
      obtain ⟨y, hy, hok⟩ := he _ _ _ ht'
      exact ⟨cs', hc, y, hy, hok⟩)
    have hlm : (l.map E).length = len := by rw [List.length_map, h1]
    refine ⟨l, ⟨_, _, rfl, rfl, Or.inr ⟨a, cap, us, by rw [hlm], by rw [hlm]; exact hl, hm, by rw [hlm]; exact h2, by rw [hlm]; exact h3, h4⟩⟩, h5⟩
theorem opens_trod {t : TypeId} {α : Type} {E : α → D} {Ok : α → Prop} (he : Opens enc P w base spare held t E Ok) {v : Value} {d : DataW H} {ps : List MemPlace} (h : DataW.Trod enc P w base spare held t v d ps) : ∃ a, Raw w (E a) v.cells.toList ∧ Ok a := by
  obtain ⟨fuel, hf⟩ := h
  exact he _ _ _ hf
end
end Tr
end Go.Proofs.Ytgeakpeodhhffaa

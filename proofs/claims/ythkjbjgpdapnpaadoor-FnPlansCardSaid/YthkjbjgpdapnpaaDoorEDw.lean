/- Loops whose length is drawn; picks out of a list, by a symbolic run. -/
import Derived.Test.YthkjbjgpdapnpaaDoorEDr
import Derived.Test.YthkjbjgpdapnpaaDoorEngZ
namespace Go.Proofs.YthkjbjgpdapnpaaDoor
open Go.RowKit
set_option linter.unusedVariables false
set_option linter.unusedSimpArgs false
set_option maxRecDepth 100000
namespace Eng
open Tr
section
variable {σ : Type} (test : Nat → σ → Bool × σ) (step : Nat → σ → σ)
/-- a loop whose test draws: at most so many rounds more, from round i on -/
def wGo : Nat → Nat → σ → σ
  | 0, i, s => (test i s).2
  | f + 1, i, s => if (test i s).1 = true then wGo f (i + 1) (step i (test i s).2) else (test i s).2
/-- the state ahead of round i -/
def wS (s0 : σ) : Nat → σ
  | 0 => s0
  | i + 1 => step i (test i (wS s0 i)).2
theorem wGo_in {N f i : Nat} {s : σ} (h : (test i s).1 = true) (hf : f = N - i) (hi : i < N) : wGo test step f i s = wGo test step (N - (i + 1)) (i + 1) (step i (test i s).2) := by
  rw [show f = (N - (i + 1)) + 1 by omega]
  exact if_pos h
theorem wGo_out {f i : Nat} {s : σ} (h : (test i s).1 = false) : wGo test step f i s = (test i s).2 := by
  cases f with
  | zero => rfl
  | succ f => exact if_neg (by rw [h]; exact Bool.false_ne_true)
/-- what each round keeps, holds at the end -/
theorem wGo_inv (I : Nat → σ → Prop) (Q : σ → Prop) (ht : ∀ i s, I i s → Q (test i s).2) (hs : ∀ i s, I i s → (test i s).1 = true → I (i + 1) (step i (test i s).2)) : ∀ (f i : Nat) (s : σ), I i s → Q (wGo test step f i s)
  | 0, i, s, h => ht i s h
  | f + 1, i, s, h => by
    unfold wGo
    split
    · rename_i h1
      exact wGo_inv I Q ht hs f (i + 1) _ (hs i s h h1)
    · exact ht i s h
end
/-- the same contracts, of results with a name -/
def c_BelowR (bs : List Int) (c : Cu) (n : Int) (r : Int × Cu) : CFD := ⟨24, [.one (.box 0 0), (SV.one (.lit (.int .i64 (n))))], [(0, some (.box 64 [ro 5 1 eU bs, (CV.lit (.int .i64 (((c).i : Int)))), (CV.lit (.int .i64 ((c).h)))]))], (TV.sv (.one (.lit (.int .i64 (r.1))))), [(0, some (.box 64 [ro 5 1 eU bs, (CV.lit (.int .i64 (((r.2).i : Int)))), (CV.lit (.int .i64 ((r.2).h)))]))], [], []⟩
theorem fn_BelowR (bs : List Int) (c : Cu) (n : Int) (r : Int × Cu) (hc : okCu bs c) (h : dBelow bs c n = r) : Fn Tryd.prog (c_BelowR bs c n r) := h ▸ fn_Below bs c n hc
def dPick (bs : List Int) (c : Cu) (l : List Int) : Int × Cu := (l.getD (dBelow bs c l.length).1.toNat 0, (dBelow bs c l.length).2)
theorem dPick_ok {bs : List Int} {c : Cu} (l : List Int) (h : okCu bs c) : okCu bs (dPick bs c l).2 := dBelow_ok _ h
theorem dPick_mem (bs : List Int) (c : Cu) {l : List Int} (h : 0 < l.length) : (dPick bs c l).1 ∈ l := by
  have := dBelow_lt bs c l.length (by omega)
  exact getD_in (by omega)
end Eng
end Go.Proofs.YthkjbjgpdapnpaaDoor

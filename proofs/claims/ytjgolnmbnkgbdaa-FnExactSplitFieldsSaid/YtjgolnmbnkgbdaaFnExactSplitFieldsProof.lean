/- Called with any arguments, the law FnExactSplitFields returns true and each argument reads afterwards as before. No condition. -/
import Derived.Test.YtjgolnmbnkgbdaaRows
import Derived.Test.YtjgolnmbnkgbdaaSplitSpec
import Derived.Test.YtjgolnmbnkgbdaaStrList
import Derived.WalkKit
import Derived.ProofKit
import Derived.OpenShut
import Derived.ShutString
import Derived.ChangeOld
import Derived.Below
namespace Go.Proofs.Ytjgolnmbnkgbdaa.fnExactSplitFields
open Go.ChangeShapes Go.WideShapes Go.ChangeAt Go.RowKit
open Go.ChangeMaps (open_string shut_string)
set_option linter.unusedVariables false      -- a walk need not use every 'w<i>' (that an integer argument fits its kind)

theorem own : ownKnob Try.prog.godebug = none := by kernel_rfl

/-! ### STEP 1: THE WALK: the Go text returns true. 'Grown w w'': the world has at most new blocks (Derived/RowKit3.lean). Part the cases AHEAD of 'go_enter' where a test parts the walk; take each callee by a contract of your own. -/
theorem walk (a0 : ByteArray) (w0 : a0.size ≤ maxLen) (w : World) :
    Calls Try.prog 6 #[.string a0] w fun e w' => e = .returned (.bool true) ∧ Below w.heap.size w w' := by
  by_cases h1 : (1048576 : Int) < a0.size
  · go_enter Try.func6, Try.ntmps6
    go_wp2
    go_ret
    exact ⟨rfl, Below.refl _ _⟩
  · obtain ⟨l, b, hl24, hlb⟩ := Spl.RetF.one a0
    have HL := Lib.hid hlb; clear hlb
    have HL24 := Lib.hid hl24; clear hl24
    have hvb : (b != b) = false := by simp
    go_enter Try.func6, Try.ntmps6
    go_wp2_with fail
    refine (Spl.spec_split _ _).mono ?_
    rintro e w1 hr
    obtain ⟨vw, rfl, ho, hb⟩ := HL.out _ _ _ hr
    clear hr
    have HOW := Lib.hid ho; clear ho
    have HB1 := Lib.hid hb; clear hb
    go_wp2_with fail
    refine (Spl.impl_split _ _).mono ?_
    rintro e w2 hr
    obtain ⟨vg, rfl, ho, hb⟩ := HL.out _ _ _ hr
    clear hr
    have HOG := Lib.hid ho; clear ho
    have HB2 := Lib.hid (HB1.out.trans (hb.mono HB1.out.size))
    have HOW2 := Lib.hid (Sl.own_kept HOW.out hb); clear hb
    go_wp2_with fail
    refine (Sl.eqStrs l vg vw _ _ w2 HOG.out HOW2.out (by have := HL24.out; omega)).mono ?_
    rintro e w' ⟨rfl, m1, rfl⟩
    go_wp2_with fail
    refine (Sl.markStrs1 l vg w1.heap.size (w2.drewN m1) HOG.out (by have := HL24.out; omega)).mono ?_
    rintro e w3 ⟨rfl, ho, hg⟩
    have HOG3 := Lib.hid ho; clear ho
    have HOW3 : Hid (w3.ownsRow w.heap.size 9 1 vw l.length (Spl.strs l)) := by
      have hk : (w2.drewN m1).ownsRow w.heap.size 9 1 vw l.length (Spl.strs l) := HOW2.out
      refine hk.kept hg ?_
      cases hv : vw.ownBlock with
      | none => exact .inl rfl
      | some x =>
        refine .inr (fun e => ?_)
        have h3 := (HOW.out.lt x hv).2
        have h4 := (HOG.out.lt x e.symm).1
        omega
    have HB3 : Hid (Below w.heap.size w w3) := by
      have hd : Below w.heap.size w (w2.drewN m1) := ⟨HB2.out.os, HB2.out.tape, HB2.out.output, HB2.out.size, HB2.out.block⟩
      exact hd.grown hg HB2.out.size (fun k hk => Nat.le_trans HB1.out.size (HOG.out.lt k hk).1)
    clear hg
    have hle : (l.length : Int) ≤ 24 := by have := HL24.out; omega
    have HLL := Lib.hid (show l.length ≤ 1000000 by omega)
    generalize hn : l.length = n at *
    have HN := Lib.hid hn; clear hn
    go_wp2_with fail
    refine (Sl.heldStrs1 n vg w1.heap.size w3 HOG3.out HLL.out).mono ?_
    rintro e w4 ⟨rfl, hb⟩
    have HB4 := Lib.hid (HB3.out.trans (hb.mono HB3.out.size))
    have HOG4 := Lib.hid (Sl.own_kept HOG3.out hb)
    have HOW4 := Lib.hid (Sl.own_kept HOW3.out hb); clear hb
    have hqq : ((1 : Int) + (n : Int) != 1 + (n : Int)) = false := by simp
    go_wp2_with fail
    refine (Spl.impl_split _ _).mono ?_
    rintro e w5 hr
    obtain ⟨vh, rfl, ho, hb⟩ := HL.out _ _ _ hr
    clear hr
    have HOH := Lib.hid ho; clear ho
    have HB5 := Lib.hid (HB4.out.trans (hb.mono HB4.out.size))
    have HOG5 := Lib.hid (Sl.own_kept HOG4.out hb)
    have HOW5 := Lib.hid (Sl.own_kept HOW4.out hb); clear hb
    go_wp2_with fail
    refine (Sl.eqStrs l vh vw w4.heap.size w.heap.size w5 (by rw [HN.out]; exact HOH.out) (by rw [HN.out]; exact HOW5.out) (by rw [HN.out]; exact HLL.out)).mono ?_
    rintro e w' ⟨rfl, m2, rfl⟩
    go_wp2_with fail
    refine (Sl.heldStrs1 n vg w1.heap.size (w5.drewN m2) HOG5.out HLL.out).mono ?_
    rintro e w6 ⟨rfl, hb⟩
    have HB6 : Hid (Below w.heap.size w w6) := by
      have hd : Below w.heap.size w (w5.drewN m2) := ⟨HB5.out.os, HB5.out.tape, HB5.out.output, HB5.out.size, HB5.out.block⟩
      exact hd.trans (hb.mono hd.size)
    clear hb
    go_wp2
    go_ret
    exact ⟨rfl, HB6.out⟩

/-! ### THE ROW's STEP: WRITTEN OUT: LEAVE IT -/
set_option maxRecDepth 100000 in
theorem lifted (os : Os) (started : os.Started) (H : Type) (enc : TypeId × Value → H) :
    ReturnsInHanded {} Try.checked os 6 .any (Rows.fnExactSplitFieldsSpec.pre6 enc Try.prog Try.f6 Rows.fnExactSplitFieldsRow.domain false) (Rows.fnExactSplitFieldsSpec.post enc Try.prog Try.f6 false true false false) := by
  refine returnsInHanded_of_change (C := Try.checked) own started (by kernel_rfl) Try.func6
    (ChangeSpec.witness6 (enc := enc) (C := Try.checked) false ⟨#[], #[.string ByteArray.empty], []⟩ 8 (by kernel_rfl) (by kernel_rfl) (by kernel_rfl) (by kernel_rfl)) ?_
  intro W base args ds gs before hval0 hW hcnd _
  have hval : ∀ (j : Nat) t v, Try.f6.params[j]? = some t → args[j]? = some v → Value.okWide Try.prog W .any base t v := hval0
  have hW' := hW
  obtain ⟨p, q, hA0, hV, rfl, hfz, hnd⟩ := hW
  have hA : DataW.TrodAll enc Try.prog W 0 (fun _ => true) true Try.f6.params.toList args.toList ds p := hA0
  rw [Try.params6] at hA hval
  obtain ⟨v0, vs0, d0, ds0, p0, q0, hargs, rfl, rfl, h0, r0⟩ := trodAll_cons hA
  obtain ⟨rfl, rfl, rfl⟩ := trodAll_nil r0
  obtain rfl : args = #[v0] := by cases args; simp_all
  obtain ⟨rfl, rfl⟩ := trodVars_none hV
  obtain ⟨a0, rfl, rfl, rfl, w0⟩ := open_string Try.underlying9 (hval 0 9 v0 rfl rfl) h0
  clear hA0 hval0
  refine (walk a0 w0 W).mono fun e W' ⟨he, bel⟩ => ?_
  subst he
  exact ⟨_, rfl, _, _, _, [], _, [], hW', trodAll_mk1 (shut_bool Try.underlying4 _), (trodAll_cons_mk (shut_string Try.underlying9 w0) trodAll_mk0), rfl, bel.frame _, fun h => by cases h⟩

theorem over : Rows.fnExactSplitFieldsRow.holds Try.pinned (OpenSpec.ofChange Rows.fnExactSplitFieldsSpec) :=
  OpenClaim.holds_of_wide 6 Try.f6 rfl rfl rfl rfl rfl rfl rfl ⟨rfl, rfl, rfl, rfl, rfl⟩ rfl rfl rfl rfl rfl (by kernel_rfl) Try.func6 (by kernel_rfl)
    (of_decide_eq_true (by kernel_rfl)) (by unfold Func.isWrapper; first | (rw [if_pos (by decide +kernel)]; kernel_rfl) | (rw [if_neg (by decide +kernel)]; exact ⟨rfl, rfl⟩))
    (fun os started H enc _ => lifted os started H enc)

/-- ████ THE STATEMENT ████ -/
theorem proved : Rows.FnExactSplitFieldsSaid :=
  over
#print axioms proved
end Go.Proofs.Ytjgolnmbnkgbdaa.fnExactSplitFields

/- Called with any arguments, the law FnExactShuffled returns true and each argument reads afterwards as before. No condition. -/
import Derived.Test.YtjgjahbffakgaaaRows
import Derived.Test.YtjgjahbffakgaaaIntList
import Derived.Test.YtjgjahbffakgaaaSeedsImpl
import Derived.WalkKit
import Derived.ProofKit
import Derived.OpenShut
import Derived.ShutString
import Derived.ChangeOld
import Derived.Below
namespace Go.Proofs.Ytjgjahbffakgaaa.fnExactShuffled
open Go.ChangeShapes Go.WideShapes Go.ChangeAt Go.RowKit
open Go.ChangeMaps (open_string shut_string)
set_option linter.unusedVariables false      -- a walk need not use every 'w<i>' (that an integer argument fits its kind)

theorem own : ownKnob Try.prog.godebug = none := by kernel_rfl

/-! ### STEP 1: THE WALK: the Go text returns true. 'Grown w w'': the world has at most new blocks (Derived/RowKit3.lean). Part the cases AHEAD of 'go_enter' where a test parts the walk; take each callee by a contract of your own. -/
theorem walk (a0 : Int) (a1 : Int) (w0 : (Lit.int .i64 a0).wf = true) (w1 : (Lit.int .i64 a1).wf = true) (w : World) :
    Calls Try.prog 7 #[.int .i64 a0, .int .i64 a1] w fun e w' => e = .returned (.bool true) ∧ Below w.heap.size w w' := by
  have HLL := Lib.hid (Sd.outL_le a0 a1)
  have HS : Hid (∀ w, Calls Try.prog 16 #[.int .i64 a0, .int .i64 a1] w (Sd.ShufP (Sd.outL a0 a1) (Sd.outS a0 a1) w)) := fun w => Sd.specShuf a0 a1 w
  have HI : Hid (∀ w, Calls Try.prog 10 #[.int .i64 a0, .int .i64 a1] w (Sd.ShufP (Sd.outL a0 a1) (Sd.outS a0 a1) w)) := fun w => Sd.implShuf a0 a1 w
  generalize Sd.outL a0 a1 = l at *
  generalize Sd.outS a0 a1 = t at *
  have hv : (t != t) = false := by simp
  go_enter Try.func7, Try.ntmps7
  go_wp2_with fail
  refine (HS.out _).mono ?_
  rintro e w1' ⟨vw, rfl, ho, hb⟩
  have HOW := Lib.hid ho; clear ho
  have HB1 := Lib.hid hb; clear hb
  go_wp2_with fail
  refine (HI.out _).mono ?_
  rintro e w2' ⟨vg, rfl, ho, hb⟩
  have HOG := Lib.hid ho; clear ho
  have HB2 := Lib.hid (HB1.out.trans (hb.mono HB1.out.size))
  have HOW2 := Lib.hid (Il.own_kept HOW.out hb); clear hb
  go_wp2_with fail
  refine (Il.eqInts l vg vw _ _ w2' HOG.out HOW2.out (by have := HLL.out; omega)).mono ?_
  rintro e w' ⟨rfl, m1, rfl⟩
  go_wp2_with fail
  refine (Il.markInts1 l vg w1'.heap.size (w2'.drewN m1) HOG.out (by have := HLL.out; omega)).mono ?_
  rintro e w3' ⟨rfl, ho, hg⟩
  have HOG3 := Lib.hid ho; clear ho
  have HOW3 : Hid (w3'.ownsRow w.heap.size 3 1 vw l.length (Il.ints l)) :=
    Il.own_apart (w := w2'.drewN m1) (b2 := w1'.heap.size) HOW2.out hg (fun k hk => (HOW.out.lt k hk).2) (fun k hk => (HOG.out.lt k hk).1)
  have HB3 : Hid (Below w.heap.size w w3') := (Il.below_drewN HB2.out m1).grown hg HB2.out.size (fun k hk => Nat.le_trans HB1.out.size (HOG.out.lt k hk).1)
  clear hg
  have hle : (l.length : Int) ≤ 64 := by have := HLL.out; omega
  generalize hn : l.length = n at *
  have HN := Lib.hid hn; clear hn
  have hqq : ((1 : Int) + (n : Int) != 1 + (n : Int)) = false := by simp
  go_wp2_with fail
  refine (Il.heldInts1 n vg w1'.heap.size w3' HOG3.out (by omega)).mono ?_
  rintro e w' ⟨rfl, m2, rfl⟩
  go_wp2_with fail
  refine (HI.out _).mono ?_
  rintro e w5' ⟨vh, rfl, ho, hb⟩
  have HOH := Lib.hid ho; clear ho
  have HB5 := Lib.hid ((Il.below_drewN HB3.out m2).trans (hb.mono HB3.out.size))
  have HOG5 := Lib.hid (Il.own_kept (w := w3'.drewN m2) HOG3.out hb)
  have HOW5 := Lib.hid (Il.own_kept (w := w3'.drewN m2) HOW3.out hb); clear hb
  go_wp2_with fail
  refine (Il.eqInts l vh vw (w3'.drewN m2).heap.size w.heap.size w5' HOH.out (by rw [HN.out]; exact HOW5.out) (by rw [HN.out]; omega)).mono ?_
  rintro e w' ⟨rfl, m3, rfl⟩
  go_wp2_with fail
  refine (Il.heldInts1 n vg w1'.heap.size (w5'.drewN m3) HOG5.out (by omega)).mono ?_
  rintro e w' ⟨rfl, m4, rfl⟩
  go_wp2
  go_ret
  exact ⟨rfl, Il.below_drewN HB5.out _⟩

/-! ### THE ROW's STEP: WRITTEN OUT: LEAVE IT -/
set_option maxRecDepth 100000 in
theorem lifted (os : Os) (started : os.Started) (H : Type) (enc : TypeId × Value → H) :
    ReturnsInHanded {} Try.checked os 7 .any (Rows.fnExactShuffledSpec.pre6 enc Try.prog Try.f7 Rows.fnExactShuffledRow.domain false) (Rows.fnExactShuffledSpec.post enc Try.prog Try.f7 false true false false) := by
  refine returnsInHanded_of_change (C := Try.checked) own started (by kernel_rfl) Try.func7
    (ChangeSpec.witness6 (enc := enc) (C := Try.checked) false ⟨#[], #[.int .i64 0, .int .i64 0], []⟩ 8 (by kernel_rfl) (by kernel_rfl) (by kernel_rfl) (by kernel_rfl)) ?_
  intro W base args ds gs before hval0 hW hcnd _
  have hval : ∀ (j : Nat) t v, Try.f7.params[j]? = some t → args[j]? = some v → Value.okWide Try.prog W .any base t v := hval0
  have hW' := hW
  obtain ⟨p, q, hA0, hV, rfl, hfz, hnd⟩ := hW
  have hA : DataW.TrodAll enc Try.prog W 0 (fun _ => true) true Try.f7.params.toList args.toList ds p := hA0
  rw [Try.params7] at hA hval
  obtain ⟨v0, vs0, d0, ds0, p0, q0, hargs, rfl, rfl, h0, r0⟩ := trodAll_cons hA
  obtain ⟨v1, vs1, d1, ds1, p1, q1, rfl, rfl, rfl, h1, r1⟩ := trodAll_cons r0
  obtain ⟨rfl, rfl, rfl⟩ := trodAll_nil r1
  obtain rfl : args = #[v0, v1] := by cases args; simp_all
  obtain ⟨rfl, rfl⟩ := trodVars_none hV
  obtain ⟨a0, rfl, rfl, rfl, w0⟩ := open_int Try.underlying3 (hval 0 3 v0 rfl rfl) h0
  obtain ⟨a1, rfl, rfl, rfl, w1⟩ := open_int Try.underlying3 (hval 1 3 v1 rfl rfl) h1
  clear hA0 hval0
  refine (walk a0 a1 w0 w1 W).mono fun e W' ⟨he, bel⟩ => ?_
  subst he
  exact ⟨_, rfl, _, _, _, [], _, [], hW', trodAll_mk1 (shut_bool Try.underlying4 _), (trodAll_cons_mk (shut_int Try.underlying3 w0) (trodAll_cons_mk (shut_int Try.underlying3 w1) trodAll_mk0)), rfl, bel.frame _, fun h => by cases h⟩

theorem over : Rows.fnExactShuffledRow.holds Try.pinned (OpenSpec.ofChange Rows.fnExactShuffledSpec) :=
  OpenClaim.holds_of_wide 7 Try.f7 rfl rfl rfl rfl rfl rfl rfl ⟨rfl, rfl, rfl, rfl, rfl⟩ rfl rfl rfl rfl rfl (by kernel_rfl) Try.func7 (by kernel_rfl)
    (of_decide_eq_true (by kernel_rfl)) (by unfold Func.isWrapper; first | (rw [if_pos (by decide +kernel)]; kernel_rfl) | (rw [if_neg (by decide +kernel)]; exact ⟨rfl, rfl⟩))
    (fun os started H enc _ => lifted os started H enc)

/-- ████ THE STATEMENT ████ -/
theorem proved : Rows.FnExactShuffledSaid :=
  over
#print axioms proved
end Go.Proofs.Ytjgjahbffakgaaa.fnExactShuffled

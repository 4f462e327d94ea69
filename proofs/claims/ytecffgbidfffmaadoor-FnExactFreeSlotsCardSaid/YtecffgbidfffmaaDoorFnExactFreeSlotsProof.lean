/- Called with any arguments, the law FnExactFreeSlots returns true and each argument reads afterwards as before; the listed package-level variables hold what the program's text lays. -/
import Derived.Test.YtecffgbidfffmaaDoorRows
import Derived.Test.YtecffgbidfffmaaDoorBitsRows
import Derived.Test.YtecffgbidfffmaaDoorCards
import Derived.Test.YtecffgbidfffmaaDoorTie
import Derived.Test.YtecffgbidfffmaaDoorLaid
import Derived.Deep.DeepHandedRow
import Derived.Deep.DeepWitnessRowRef
import Derived.Lib.LaidTab
import Derived.ChangeOld
import Derived.Below
import Derived.OpenVars
import Derived.WalkKit
import Derived.ProofKit
import Derived.OpenShut
import Derived.ShutString
namespace Go.Proofs.YtecffgbidfffmaaDoor.fnExactFreeSlots
open Go.ChangeShapes Go.WideShapes Go.ChangeAt Go.RowKit
open Go.ChangeMaps (open_string shut_string)
set_option linter.unusedVariables false      -- a walk need not use every 'w<i>' (that an integer argument fits its kind)

theorem own : ownKnob Tryd.prog.godebug = none := by kernel_rfl

/-! ### STEP 1: THE WALK: the Go text returns true. 'Grown w w'': the world has at most new blocks (Derived/RowKit3.lean). Part the cases AHEAD of 'go_enter' where a test parts the walk; take each callee by a contract of your own. -/
theorem walk (a0 : Int) (a1 : Int) (w0 : (Lit.int .i64 a0).wf = true) (w1 : (Lit.int .i64 a1).wf = true) (w : World) (hT : Laid.LSlotMasks w) :
    Calls Tryd.prog 8 #[.int .i64 a0, .int .i64 a1] w fun e w' => e = .returned (.bool true) ∧ Below w.heap.size w w' := by
  have hb : a1 ≤ 9223372036854775807 := Bm.wf_le w1
  have HB := Lib.hid hb; clear hb
  have HT := Lib.hid hT; clear hT
  have HLL := Lib.hid (Bm.freeL_le a0 a1)
  have HS : Hid (∀ w, Calls Tryd.prog 23 #[.int .i64 a0, .int .i64 a1] w (Bm.ListP (Bm.freeL a0 a1) w)) := fun w => Bm.specFree a0 a1 w
  have HI : Hid (∀ w', Below w.heap.size w w' → Calls Tryd.prog 18 #[.int .i64 a0, .int .i64 a1] w' (Bm.ListP (Bm.freeL a0 a1) w')) := fun w' hb' => Bm.implFree a0 a1 w' (HT.out.below hb').slotMasks
  generalize Bm.freeL a0 a1 = l at *
  go_enter Tryd.func8, Tryd.ntmps8
  go_wp2_with fail
  refine (HS.out _).mono ?_
  rintro e w1' ⟨vw, rfl, ho, hb⟩
  have HOW := Lib.hid ho; clear ho
  have HB1 := Lib.hid hb; clear hb
  go_wp2_with fail
  refine (HI.out _ HB1.out).mono ?_
  rintro e w2' ⟨vg, rfl, ho, hb⟩
  have HOG := Lib.hid ho; clear ho
  have HB2 := Lib.hid (HB1.out.trans (hb.mono HB1.out.size))
  have HOW2 := Lib.hid (Il.own_kept HOW.out hb); clear hb
  go_wp2_with fail
  refine (Il.eqInts l vg vw _ _ w2' HOG.out HOW2.out (by have := HLL.out; omega)).mono ?_
  rintro e w' ⟨rfl, m1, rfl⟩
  go_wp2_with fail
  refine (Il.markInts1 l vg w1'.heap.size (w2'.drewN m1) HOG.out (by have := HLL.out; omega)).mono ?_
  rintro e w3' ⟨rfl, ho, hg⟩
  have HOG3 := Lib.hid ho; clear ho
  have HOW3 : Hid (w3'.ownsRow w.heap.size 3 1 vw l.length (Il.ints l)) :=
    Il.own_apart (w := w2'.drewN m1) (b2 := w1'.heap.size) HOW2.out hg (fun k hk => (HOW.out.lt k hk).2) (fun k hk => (HOG.out.lt k hk).1)
  have HB3 : Hid (Below w.heap.size w w3') := (Il.below_drewN HB2.out m1).grown hg HB2.out.size (fun k hk => Nat.le_trans HB1.out.size (HOG.out.lt k hk).1)
  clear hg
  have hle : (l.length : Int) ≤ 16 := by have := HLL.out; omega
  generalize hn : l.length = n at *
  have HN := Lib.hid hn; clear hn
  have hqq : ((1 : Int) + (n : Int) != 1 + (n : Int)) = false := by simp
  go_wp2_with fail
  refine (Il.heldInts1 n vg w1'.heap.size w3' HOG3.out (by omega)).mono ?_
  rintro e w' ⟨rfl, m2, rfl⟩
  go_wp2_with fail
  refine (HI.out _ (Il.below_drewN HB3.out m2)).mono ?_
  rintro e w5' ⟨vh, rfl, ho, hb⟩
  have HOH := Lib.hid ho; clear ho
  have HB5 := Lib.hid ((Il.below_drewN HB3.out m2).trans (hb.mono HB3.out.size))
  have HOG5 := Lib.hid (Il.own_kept (w := w3'.drewN m2) HOG3.out hb)
  have HOW5 := Lib.hid (Il.own_kept (w := w3'.drewN m2) HOW3.out hb); clear hb
  go_wp2_with fail
  refine (Il.eqInts l vh vw (w3'.drewN m2).heap.size w.heap.size w5' HOH.out (by rw [HN.out]; exact HOW5.out) (by rw [HN.out]; omega)).mono ?_
  rintro e w' ⟨rfl, m3, rfl⟩
  go_wp2_with fail
  refine (Il.heldInts1 n vg w1'.heap.size (w5'.drewN m3) HOG5.out (by omega)).mono ?_
  rintro e w' ⟨rfl, m4, rfl⟩
  go_wp2
  go_ret
  exact ⟨rfl, Il.below_drewN HB5.out _⟩

set_option maxRecDepth 100000 in
theorem contract (H : Type) (enc : TypeId × Value → H) (W : World) (base : Nat) (args : Array Value) (ds gs : List (DataW H)) (before : List MemPlace)
    (hval0 : ∀ (j : Nat) t v, Tryd.f8.params[j]? = some t → args[j]? = some v → Value.okWide Tryd.prog W .any base t v)
    (hW : DataW.Whole enc Tryd.prog Tryd.f8.params.toList Rows.fnExactFreeSlotsSpec.vars false W args.toList ds gs before) (hT : Laid.LSlotMasks W) :
    Calls Tryd.prog 8 args W fun e W' => ∃ v, e = .returned v ∧ Rows.fnExactFreeSlotsSpec.post enc Tryd.prog Tryd.f8 false true false false W args v W' := by
  have hval : ∀ (j : Nat) t v, Tryd.f8.params[j]? = some t → args[j]? = some v → Value.okWide Tryd.prog W .any base t v := hval0
  have hW' := hW
  obtain ⟨p, q, hA0, hV, rfl, hfz, hnd⟩ := hW
  have hA : DataW.TrodAll enc Tryd.prog W 0 (fun _ => true) true Tryd.f8.params.toList args.toList ds p := hA0
  rw [Tryd.params8] at hA hval
  obtain ⟨v0, vs0, d0, ds0, p0, q0, hargs, rfl, rfl, h0, r0⟩ := trodAll_cons hA
  obtain ⟨v1, vs1, d1, ds1, p1, q1, rfl, rfl, rfl, h1, r1⟩ := trodAll_cons r0
  obtain ⟨rfl, rfl, rfl⟩ := trodAll_nil r1
  obtain rfl : args = #[v0, v1] := by cases args; simp_all
  obtain ⟨g0, rfl⟩ := Laid.vars1 hV
  obtain ⟨a0, rfl, rfl, rfl, w0⟩ := open_int Tryd.underlying3 (hval 0 3 v0 rfl rfl) h0
  obtain ⟨a1, rfl, rfl, rfl, w1⟩ := open_int Tryd.underlying3 (hval 1 3 v1 rfl rfl) h1
  clear hA0 hval0
  refine (walk a0 a1 w0 w1 W hT).mono fun e W' ⟨he, bel⟩ => ?_
  subst he
  exact ⟨_, rfl, _, _, _, [], _, q, hW', trodAll_mk1 (shut_bool Tryd.underlying4 _), (trodAll_cons_mk (shut_int Tryd.underlying3 w0) (trodAll_cons_mk (shut_int Tryd.underlying3 w1) trodAll_mk0)), bel.trodVars Laid.laidOut (by kernel_rfl) hV, bel.frame _, fun h => by cases h⟩

theorem laid_met (os : Os) : laidMet Tryd.prog Rows.fnExactFreeSlotsRow.laid ((Laid.world os).forCall (fun _ _ => 0) ⟨#[], #[.int .i64 0, .int .i64 0], []⟩).memory :=
  laidMet_of_run' 8 (by kernel_rfl) (by kernel_rfl)
theorem witness_row (os : Os) {H : Type} (enc : TypeId × Value → H) :
    (OpenSpec.ofChange Rows.fnExactFreeSlotsSpec).preRow enc Tryd.prog Tryd.f8 Rows.fnExactFreeSlotsRow.domain false Rows.fnExactFreeSlotsRow.laid ((Laid.world os).forCall (fun _ _ => 0) ⟨#[], #[.int .i64 0, .int .i64 0], []⟩).memory #[.int .i64 0, .int .i64 0] := by
  have hw : (DataW.whole enc Tryd.prog ((Laid.world os).forCall (fun _ _ => 0) ⟨#[], #[.int .i64 0, .int .i64 0], []⟩).memory Tryd.f8.params.toList Rows.fnExactFreeSlotsSpec.vars false (#[.int .i64 0, .int .i64 0] : Array Value).toList 8).map (fun x => (x.1, x.2.1)) = some ([.lit (.int .i64 0), .lit (.int .i64 0)], [Rows.laid_loop_example_g00978_impl_slotMasks]) := by kernel_rfl
  obtain ⟨⟨x1, x2, x3⟩, hx, hx1⟩ := Option.map_eq_some_iff.1 hw
  simp only [Prod.mk.injEq] at hx1
  obtain ⟨rfl, rfl⟩ := hx1
  exact OpenSpec.preRow_of_cond 8 hx (by kernel_rfl) (fun k hk => by cases hk) (by kernel_rfl) (laid_met os)

set_option maxRecDepth 100000 in
theorem lifted (os : Os) (started : os.Started) (H : Type) (enc : TypeId × Value → H) (F : Stop.Interp) :
    ReturnsInHanded {} Tryd.checked os 8 .any ((OpenSpec.ofChange Rows.fnExactFreeSlotsSpec).preRow enc Tryd.prog Tryd.f8 Rows.fnExactFreeSlotsRow.domain false Rows.fnExactFreeSlotsRow.laid) (((OpenSpec.ofChange Rows.fnExactFreeSlotsSpec).at F).post enc Tryd.prog Tryd.f8 false true false false) := by
  refine returnsInHanded_of_row (C := Tryd.checked) (s := OpenSpec.ofChange Rows.fnExactFreeSlotsSpec) own started (by kernel_rfl) Tryd.func8
    (witness_row_at (enc := enc) (C := Tryd.checked) false (Laid.world os) #[.int .i64 0, .int .i64 0] rfl (by kernel_rfl) (by kernel_rfl) (by kernel_rfl) (witness_row os enc)) ?_
  intro W base args ds gs before hval hW _ _ _ hL _ _
  exact contract H enc W base args ds gs before hval hW (Laid.has_0 hL)

theorem said : Rows.FnExactFreeSlotsSaid :=
  OpenClaim.holds_of_cond 8 Tryd.f8 rfl rfl rfl rfl rfl rfl rfl ⟨rfl, rfl, rfl, rfl, rfl⟩ rfl rfl rfl rfl rfl (by kernel_rfl) Tryd.func8 (by kernel_rfl)
    (of_decide_eq_true (by kernel_rfl)) (by unfold Func.isWrapper; first | (rw [if_pos (by decide +kernel)]; kernel_rfl) | (rw [if_neg (by decide +kernel)]; exact ⟨rfl, rfl⟩))
    (fun os started H enc _ F => by rw [OpenClaim.pre_eq_preRow]; exact lifted os started H enc F)

theorem plain (f : FuncId) (fn : Func) (hf : Tryd.pinned.checked.prog.funcNamed "loop.example/g00978/laws.FnExactFreeSlots" = some f) (hfn : Tryd.pinned.checked.prog.funcs[f]? = some fn) :
    false = Tryd.pinned.checked.prog.looks [] ∧ ∀ (j : Nat) t, fn.params[j]? = some t → Tryd.pinned.checked.prog.wantsStandIn t = false := by
  obtain rfl : f = 8 := Option.some.inj ((show Tryd.prog.funcNamed "loop.example/g00978/laws.FnExactFreeSlots" = some 8 by kernel_rfl).symm.trans hf) |>.symm
  obtain rfl : fn = Tryd.f8 := (Option.some.inj (Tryd.func8.symm.trans hfn)).symm
  refine ⟨by kernel_rfl, fun j t ht => ?_⟩
  rw [Tryd.params8] at ht
  have hm := Array.mem_of_getElem? ht
  simp only [List.mem_toArray, List.mem_cons, List.not_mem_nil, or_false] at hm
  rcases hm with rfl | rfl
  · exact (show Tryd.prog.wantsStandIn 3 = false by kernel_rfl)
  · exact (show Tryd.prog.wantsStandIn 3 = false by kernel_rfl)

/-- THE CARD -/
theorem proved : Rows.FnExactFreeSlotsCardSaid :=
  Claim7.holds_tied_plain_at .later [] _ _ _ _ said (fun _ h => by cases h) (by kernel_rfl) (fun _ h => by cases h) fnExactFreeSlots_row_tie rfl ⟨rfl, rfl⟩ (by kernel_rfl) rfl plain (by kernel_rfl)
#print axioms proved
end Go.Proofs.YtecffgbidfffmaaDoor.fnExactFreeSlots

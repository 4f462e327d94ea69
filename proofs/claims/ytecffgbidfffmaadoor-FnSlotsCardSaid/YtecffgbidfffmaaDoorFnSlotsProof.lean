/- Called with any arguments, the law FnSlots returns true and each argument reads afterwards as before; the listed package-level variables hold what the program's text lays. -/
import Derived.Test.YtecffgbidfffmaaDoorRows
import Derived.Test.YtecffgbidfffmaaDoorBig
import Derived.Test.YtecffgbidfffmaaDoorDrawBits
import Derived.Test.YtecffgbidfffmaaDoorDrawPlaces
import Derived.Test.YtecffgbidfffmaaDoorBitFacts
import Derived.Test.YtecffgbidfffmaaDoorBitsTab
import Derived.Test.YtecffgbidfffmaaDoorCards
import Derived.Test.YtecffgbidfffmaaDoorTie
import Derived.Test.YtecffgbidfffmaaDoorLaid
import Derived.Deep.DeepHandedRow
import Derived.Deep.DeepWitnessRowRef
import Derived.Lib.LaidTab
import Derived.ChangeOld
import Derived.Below
import Derived.OpenVars
import Derived.WalkKit
import Derived.ProofKit
import Derived.OpenShut
import Derived.ShutString
namespace Go.Proofs.YtecffgbidfffmaaDoor.fnSlots
open Go.ChangeShapes Go.WideShapes Go.ChangeAt Go.RowKit
open Go.ChangeMaps (open_string shut_string)
set_option linter.unusedVariables false

theorem own : ownKnob Tryd.prog.godebug = none := by kernel_rfl
theorem laidOut : laidOutB Tryd.prog = true := by kernel_rfl

/-- WHAT THE WALK IS TOLD OF A SLICE OF INTEGERS THAT CAME IN: it is nil; or it leads to a row of 'cap' cells, the numbers 'zs' (the first 'len' are its elements, the rest its spare room), each fitting its kind. -/
def IsRow (k : IntKind) (w : World) (a : Option Addr) (len cap : Nat) (zs : List Int) : Prop :=
  (a = none ∧ len = 0 ∧ cap = 0 ∧ zs = []) ∨
  ∃ x, a = some x ∧ len ≤ cap ∧ cap ≤ maxLen ∧ zs.length = cap ∧ (∀ i, i < zs.length → w.cell? (x.add i) = some (.int k (zs.getD i 0))) ∧ ∀ n ∈ zs, (Lit.int k n).wf = true

/-! ### STEP 1: THE WALK: the Go text returns true, AND WRITES NOTHING THAT WAS THERE: 'Below w.heap.size w w'' (Derived/Below.lean: '.refl', '.alloc', '.drew', '.setCell' at a new block, '.trans'). Open each 'IsRow' by 'rcases' AHEAD of 'go_enter'; part every test ahead of the walk. -/
theorem walk (a0 : Option Addr) (len0 cap0 : Nat) (z0 : List Int) (w : World) (w0 : IsRow .u8 w a0 len0 cap0 z0) (hT : Laid.LSlotMasks w) :
    Calls Tryd.prog 3 #[.slice a0 len0 cap0] w fun e w' => e = .returned (.bool true) ∧ Below w.heap.size w w' := by
  by_cases hbig : (1048576 : Int) < len0
  · go_enter Tryd.func3, Tryd.ntmps3
    go_wp2_with (go_at_call 10; refine (Dr.bigYes hbig).mono ?_; rintro e w' ⟨rfl, rfl⟩)
    go_ret
    exact ⟨rfl, Below.refl _ _⟩
  · have HR : Hid (Dr.IsRow .u8 w a0 len0 cap0 z0) := w0
    clear w0
    have HT := Lib.hid hT; clear hT
    have hlen : (len0 : Int) ≤ 1048576 := by omega
    go_enter Tryd.func3, Tryd.ntmps3
    go_wp2_with fail
    refine (Dr.bigNo hlen).mono ?_
    rintro e w' ⟨rfl, rfl⟩
    go_wp2_with fail
    refine (Dr.drawBitmap HR.out (by omega)).mono ?_
    rintro e w1 ⟨n, b, c, hn, hb, _, rfl, hbel⟩
    have hn1 : (1 : Int) ≤ n := by omega
    have hn16 : (n : Int) ≤ 16 := by omega
    have HN := Lib.hid hn; clear hn
    have HBN := Lib.hid hb; clear hb
    have HB1 := Lib.hid hbel
    have HR1 : Hid (Dr.IsRow .u8 w1 a0 len0 cap0 z0) := HR.out.of_block (fun x hx hc => hbel.block x.block (HR.out.lt x hx hc))
    clear hbel
    go_wp2_with fail
    refine (Dr.drawPlaces HR1.out (by omega)).mono ?_
    rintro e w2 ⟨v, l, hl, hx, rfl, ho, hbel⟩
    have HB2 := Lib.hid (HB1.out.trans (hbel.mono HB1.out.size)); clear hbel
    obtain ⟨g, cp, rfl, _, _⟩ := Il.own_form ho (by omega)
    have hc0 := ho.cellAt 0 (by omega)
    rw [Il.ints_at (by omega)] at hc0
    have hx0 := hx (l[0]'(by omega)) (List.getElem_mem _)
    generalize l[0]'(by omega) = x0 at *
    clear ho hx hl
    have hn0 : ((n : Int) == 0) = false := by simp; omega
    obtain ⟨i, hi, hin⟩ : ∃ i : Nat, x0 % (n : Int) = i ∧ i < n := by
      have h1 := Int.emod_nonneg x0 (show (n : Int) ≠ 0 by omega)
      have h2 := Int.emod_lt_of_pos x0 (show (0 : Int) < n by omega)
      exact ⟨(x0 % (n : Int)).toNat, by omega, by omega⟩
    have HI := Lib.hid hi; clear hi
    have hbl : (b : Int) ≤ 9223372036854775807 := by have := Bm.small (n := n) (by omega) HBN.out; omega
    have HBL := Lib.hid hbl; clear hbl
    have HXL := Lib.hid (Bm.set_le n b i (by omega) HBN.out hin)
    have HYL := Lib.hid (Bm.unset_le n b i (by omega) HBN.out hin)
    have HXK : Hid (∀ k : Nat, k < n → k ≠ i → Bm.has (Bm.set b i) k = Bm.has b k) := fun k hk hne => Bm.has_set b i k (by omega) (by omega) hne
    have HYK : Hid (∀ k : Nat, k < n → k ≠ i → Bm.has (Bm.unset b i) k = Bm.has b k) := fun k hk hne => Bm.has_unset b i k (by omega) (by omega) hne
    have HXI : Hid (Bm.has (Bm.set b i) i = true) := Bm.has_set_self b i (by omega)
    have HYI : Hid (Bm.has (Bm.unset b i) i = false) := Bm.has_unset_self b i (by omega)
    have HC : Hid (Bm.count (Bm.set b i) = Bm.count (Bm.unset b i) + 1) := Bm.count_set b i (by omega)
    have HCY : Hid (0 ≤ Bm.count (Bm.unset b i) ∧ Bm.count (Bm.unset b i) ≤ 16) := by
      show _ ∧ _
      unfold Bm.count
      split
      · have := Bm.cnt_le (Bm.unset b i).toNat 16; omega
      · omega
    have HO : Hid (Bm.isMap n (Bm.set b i) = true) := Bm.ok_set n b i (by omega) (by omega) HBN.out hin
    have HMK : Hid (Bm.Masks _) := (HT.out.below HB2.out).slotMasks
    have HGL : Hid (-9223372036854775808 ≤ (b : Int)) := by show _ ≤ _; omega
    clear HBN HN
    go_wp2_with fail
    rw [HI.out]
    refine (Bm.implWith _ _ _ HGL.out HBL.out HMK.out).mono ?_
    rintro e w3 ⟨rfl, rfl⟩
    go_wp2_with fail
    refine (Bm.implWithout _ _ _ HGL.out HBL.out HMK.out).mono ?_
    rintro e w3 ⟨rfl, rfl⟩
    generalize Bm.set b i = x at *
    generalize Bm.unset b i = y at *
    generalize hbz : (b : Int) = bz at *
    clear hbz
    go_wp2
    go_loop [10] (fun c => ∃ k : Nat, k ≤ n ∧ c = .int .i64 k) (fun c => n - (intOf c).toNat)
    case atStart => exact ⟨0, Nat.zero_le _, rfl⟩
    case round =>
      obtain ⟨k, hk, rfl⟩ := hrel
      by_cases hlt : (k : Int) < n
      · by_cases hki : k = i
        · subst hki
          have hne : ((k : Int) != (k : Int)) = false := by simp
          go_wp2
          go_round
          case rel => exact ⟨k + 1, by omega, by go_num⟩
          case measure => simp [intOf]; omega
        · have hne : ((k : Int) != (i : Int)) = true := by simp; omega
          have h1 := Lib.hid (HXK.out k (by omega) hki)
          have h2 := Lib.hid (HYK.out k (by omega) hki)
          clear hki
          have H3 : ∃ r, Hid (Bm.has bz k = r) := ⟨_, Lib.hid rfl⟩
          obtain ⟨r, H3⟩ := H3
          have hr : (r != r) = false := by simp
          go_wp2_with fail
          refine (Bm.implHas _ _ _ HXL.out HMK.out).mono ?_
          rintro e w3 ⟨rfl, rfl⟩
          rw [h1.out, H3.out]
          go_wp2_with fail
          refine (Bm.implHas _ _ _ HBL.out HMK.out).mono ?_
          rintro e w3 ⟨rfl, rfl⟩
          rw [H3.out]
          go_wp2_with fail
          refine (Bm.implHas _ _ _ HYL.out HMK.out).mono ?_
          rintro e w3 ⟨rfl, rfl⟩
          rw [h2.out, H3.out]
          go_wp2_with fail
          refine (Bm.implHas _ _ _ HBL.out HMK.out).mono ?_
          rintro e w3 ⟨rfl, rfl⟩
          rw [H3.out]
          go_wp2
          go_round
          case rel => exact ⟨k + 1, by omega, by go_num⟩
          case measure => simp [intOf]; omega
      · have hcc : (Bm.count y + 1 == Bm.count y + 1) = true := by simp
        go_wp2_with fail
        refine (Bm.implHas _ _ _ HXL.out HMK.out).mono ?_
        rintro e w3 ⟨rfl, rfl⟩
        rw [HXI.out]
        go_wp2_with fail
        refine (Bm.implHas _ _ _ HYL.out HMK.out).mono ?_
        rintro e w3 ⟨rfl, rfl⟩
        rw [HYI.out]
        go_wp2_with fail
        refine (Bm.implCount _ _ HXL.out).mono ?_
        rintro e w3 ⟨rfl, rfl⟩
        rw [HC.out]
        go_wp2_with fail
        refine (Bm.implCount _ _ HYL.out).mono ?_
        rintro e w3 ⟨rfl, rfl⟩
        have hcy := HCY.out
        clear HC HCY
        generalize Bm.count y = cy at *
        go_wp2_with fail
        refine (Bm.implOk _ _ _).mono ?_
        rintro e w3 ⟨rfl, rfl⟩
        rw [HO.out]
        go_wp2
        go_ret
        exact ⟨rfl, HB2.out⟩

set_option maxRecDepth 100000 in
theorem contract (H : Type) (enc : TypeId × Value → H) (W : World) (base : Nat) (args : Array Value) (ds gs : List (DataW H)) (before : List MemPlace)
    (hval0 : ∀ (j : Nat) t v, Tryd.f3.params[j]? = some t → args[j]? = some v → Value.okWide Tryd.prog W .any base t v)
    (hW : DataW.Whole enc Tryd.prog Tryd.f3.params.toList Rows.fnSlotsSpec.vars false W args.toList ds gs before) (hT : Laid.LSlotMasks W) :
    Calls Tryd.prog 3 args W fun e W' => ∃ v, e = .returned v ∧ Rows.fnSlotsSpec.post enc Tryd.prog Tryd.f3 false true false false W args v W' := by
  have hval : ∀ (j : Nat) t v, Tryd.f3.params[j]? = some t → args[j]? = some v → Value.okWide Tryd.prog W .any base t v := hval0
  have hW' := hW
  obtain ⟨p, q, hA0, hV, rfl, hfz, hnd⟩ := hW
  have hA : DataW.TrodAll enc Tryd.prog W 0 (fun _ => true) true Tryd.f3.params.toList args.toList ds p := hA0
  rw [Tryd.params3] at hA hval
  obtain ⟨v0, vs0, d0, ds0, p0, q0, hargs, rfl, rfl, h0, r0⟩ := trodAll_cons hA
  obtain ⟨rfl, rfl, rfl⟩ := trodAll_nil r0
  obtain rfl : args = #[v0] := by cases args; simp_all
  obtain ⟨g0, rfl⟩ := Laid.vars1 hV
  obtain ⟨a0, len0, cap0, rfl⟩ := okWide_slice Tryd.underlying22 (hval 0 22 v0 rfl rfl)
  have k0 := h0
  have lt0 : ∀ x ∈ p0, x.block < W.heap.size := by obtain ⟨m, hm⟩ := k0; exact DataW.trod_lt m _ _ _ hm
  obtain ⟨z0, w0⟩ : ∃ zs, IsRow .u8 W a0 len0 cap0 zs := by
    obtain ⟨fuel, hf⟩ := h0
    rcases open_ints Tryd.underlying22 Tryd.underlying5 (by kernel_rfl) hf with ⟨hcs, _⟩ | ⟨x, l, c, zs, hcs, _, hl, hm, hz, _, hcell, hwz⟩
    · simp [Value.cells] at hcs
      obtain ⟨rfl, rfl, rfl⟩ := hcs
      exact ⟨[], .inl ⟨rfl, rfl, rfl, rfl⟩⟩
    · simp [Value.cells] at hcs
      obtain ⟨rfl, rfl, rfl⟩ := hcs
      exact ⟨zs, .inr ⟨_, rfl, hl, hm, by simpa using hz, hcell, hwz⟩⟩
  clear hA0 hval0
  refine (walk a0 len0 cap0 z0 W w0 hT).mono fun e W' ⟨he, bel⟩ => ?_
  subst he
  exact ⟨_, rfl, _, _, _, [], _, q, hW', trodAll_mk1 (shut_bool Tryd.underlying4 _), (trodAll_cons_mk (Below.trod laidOut (by kernel_rfl) (of_decide_eq_true (by kernel_rfl)) k0 bel lt0) trodAll_mk0), bel.trodVars Laid.laidOut (by kernel_rfl) hV, bel.frame _, fun h => by cases h⟩

theorem laid_met (os : Os) : laidMet Tryd.prog Rows.fnSlotsRow.laid ((Laid.world os).forCall (fun _ _ => 0) ⟨#[], #[.slice none 0 0], []⟩).memory :=
  laidMet_of_run' 8 (by kernel_rfl) (by kernel_rfl)
theorem witness_row (os : Os) {H : Type} (enc : TypeId × Value → H) :
    (OpenSpec.ofChange Rows.fnSlotsSpec).preRow enc Tryd.prog Tryd.f3 Rows.fnSlotsRow.domain false Rows.fnSlotsRow.laid ((Laid.world os).forCall (fun _ _ => 0) ⟨#[], #[.slice none 0 0], []⟩).memory #[.slice none 0 0] := by
  have hw : (DataW.whole enc Tryd.prog ((Laid.world os).forCall (fun _ _ => 0) ⟨#[], #[.slice none 0 0], []⟩).memory Tryd.f3.params.toList Rows.fnSlotsSpec.vars false (#[.slice none 0 0] : Array Value).toList 8).map (fun x => (x.1, x.2.1)) = some ([.nil], [Rows.laid_loop_example_g00978_impl_slotMasks]) := by kernel_rfl
  obtain ⟨⟨x1, x2, x3⟩, hx, hx1⟩ := Option.map_eq_some_iff.1 hw
  simp only [Prod.mk.injEq] at hx1
  obtain ⟨rfl, rfl⟩ := hx1
  exact OpenSpec.preRow_of_cond 8 hx (by kernel_rfl) (fun k hk => by cases hk) (by kernel_rfl) (laid_met os)

set_option maxRecDepth 100000 in
theorem lifted (os : Os) (started : os.Started) (H : Type) (enc : TypeId × Value → H) (F : Stop.Interp) :
    ReturnsInHanded {} Tryd.checked os 3 .any ((OpenSpec.ofChange Rows.fnSlotsSpec).preRow enc Tryd.prog Tryd.f3 Rows.fnSlotsRow.domain false Rows.fnSlotsRow.laid) (((OpenSpec.ofChange Rows.fnSlotsSpec).at F).post enc Tryd.prog Tryd.f3 false true false false) := by
  refine returnsInHanded_of_row (C := Tryd.checked) (s := OpenSpec.ofChange Rows.fnSlotsSpec) own started (by kernel_rfl) Tryd.func3
    (witness_row_at (enc := enc) (C := Tryd.checked) false (Laid.world os) #[.slice none 0 0] rfl (by kernel_rfl) (by kernel_rfl) (by kernel_rfl) (witness_row os enc)) ?_
  intro W base args ds gs before hval hW _ _ _ hL _ _
  exact contract H enc W base args ds gs before hval hW (Laid.has_0 hL)

theorem said : Rows.FnSlotsSaid :=
  OpenClaim.holds_of_cond 3 Tryd.f3 rfl rfl rfl rfl rfl rfl rfl ⟨rfl, rfl, rfl, rfl, rfl⟩ rfl rfl rfl rfl rfl (by kernel_rfl) Tryd.func3 (by kernel_rfl)
    (of_decide_eq_true (by kernel_rfl)) (by unfold Func.isWrapper; first | (rw [if_pos (by decide +kernel)]; kernel_rfl) | (rw [if_neg (by decide +kernel)]; exact ⟨rfl, rfl⟩))
    (fun os started H enc _ F => by rw [OpenClaim.pre_eq_preRow]; exact lifted os started H enc F)

theorem plain (f : FuncId) (fn : Func) (hf : Tryd.pinned.checked.prog.funcNamed "loop.example/g00978/laws.FnSlots" = some f) (hfn : Tryd.pinned.checked.prog.funcs[f]? = some fn) :
    false = Tryd.pinned.checked.prog.looks [] ∧ ∀ (j : Nat) t, fn.params[j]? = some t → Tryd.pinned.checked.prog.wantsStandIn t = false := by
  obtain rfl : f = 3 := Option.some.inj ((show Tryd.prog.funcNamed "loop.example/g00978/laws.FnSlots" = some 3 by kernel_rfl).symm.trans hf) |>.symm
  obtain rfl : fn = Tryd.f3 := (Option.some.inj (Tryd.func3.symm.trans hfn)).symm
  refine ⟨by kernel_rfl, fun j t ht => ?_⟩
  rw [Tryd.params3] at ht
  have hm := Array.mem_of_getElem? ht
  simp only [List.mem_toArray, List.mem_cons, List.not_mem_nil, or_false] at hm
  subst hm
  exact (show Tryd.prog.wantsStandIn 22 = false by kernel_rfl)

/-- THE CARD -/
theorem proved : Rows.FnSlotsCardSaid :=
  Claim7.holds_tied_plain_at .later [] _ _ _ _ said (fun _ h => by cases h) (by kernel_rfl) (fun _ h => by cases h) fnSlots_row_tie rfl ⟨rfl, rfl⟩ (by kernel_rfl) rfl plain (by kernel_rfl)
#print axioms proved
end Go.Proofs.YtecffgbidfffmaaDoor.fnSlots

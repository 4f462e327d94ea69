/- Called with any arguments, the law FnFreeSlots returns true and each argument reads afterwards as before; the listed package-level variables hold what the program's text lays. -/
import Derived.Test.YtecffgbidfffmaaDoorRows
import Derived.Test.YtecffgbidfffmaaDoorBig
import Derived.Test.YtecffgbidfffmaaDoorDrawBits
import Derived.Test.YtecffgbidfffmaaDoorDrawPlaces
import Derived.Test.YtecffgbidfffmaaDoorBitFacts
import Derived.Test.YtecffgbidfffmaaDoorBitsRows
import Derived.Test.YtecffgbidfffmaaDoorCards
import Derived.Test.YtecffgbidfffmaaDoorTie
import Derived.Test.YtecffgbidfffmaaDoorLaid
import Derived.Deep.DeepHandedRow
import Derived.Deep.DeepWitnessRowRef
import Derived.Lib.LaidTab
import Derived.ChangeOld
import Derived.Below
import Derived.OpenVars
import Derived.WalkKit
import Derived.ProofKit
import Derived.OpenShut
import Derived.ShutString
namespace Go.Proofs.YtecffgbidfffmaaDoor.fnFreeSlots
open Go.ChangeShapes Go.WideShapes Go.ChangeAt Go.RowKit
open Go.ChangeMaps (open_string shut_string)
set_option linter.unusedVariables false

theorem own : ownKnob Tryd.prog.godebug = none := by kernel_rfl
theorem laidOut : laidOutB Tryd.prog = true := by kernel_rfl

/-- WHAT THE WALK IS TOLD OF A SLICE OF INTEGERS THAT CAME IN: it is nil; or it leads to a row of 'cap' cells, the numbers 'zs' (the first 'len' are its elements, the rest its spare room), each fitting its kind. -/
def IsRow (k : IntKind) (w : World) (a : Option Addr) (len cap : Nat) (zs : List Int) : Prop :=
  (a = none ∧ len = 0 ∧ cap = 0 ∧ zs = []) ∨
  ∃ x, a = some x ∧ len ≤ cap ∧ cap ≤ maxLen ∧ zs.length = cap ∧ (∀ i, i < zs.length → w.cell? (x.add i) = some (.int k (zs.getD i 0))) ∧ ∀ n ∈ zs, (Lit.int k n).wf = true

/-! ### STEP 1: THE WALK: the Go text returns true, AND WRITES NOTHING THAT WAS THERE: 'Below w.heap.size w w'' (Derived/Below.lean: '.refl', '.alloc', '.drew', '.setCell' at a new block, '.trans'). Open each 'IsRow' by 'rcases' AHEAD of 'go_enter'; part every test ahead of the walk. -/
set_option maxHeartbeats 600000 in
theorem walk (a0 : Option Addr) (len0 cap0 : Nat) (z0 : List Int) (w : World) (w0 : IsRow .u8 w a0 len0 cap0 z0) (hT : Laid.LSlotMasks w) :
    Calls Tryd.prog 4 #[.slice a0 len0 cap0] w fun e w' => e = .returned (.bool true) ∧ Below w.heap.size w w' := by
  by_cases hbig : (1048576 : Int) < len0
  · go_enter Tryd.func4, Tryd.ntmps4
    go_wp2_with (go_at_call 10; refine (Dr.bigYes hbig).mono ?_; rintro e w' ⟨rfl, rfl⟩)
    go_ret
    exact ⟨rfl, Below.refl _ _⟩
  · have HR : Hid (Dr.IsRow .u8 w a0 len0 cap0 z0) := w0
    clear w0
    have HT := Lib.hid hT; clear hT
    have hlen : (len0 : Int) ≤ 1048576 := by omega
    go_enter Tryd.func4, Tryd.ntmps4
    go_wp2_with fail
    refine (Dr.bigNo hlen).mono ?_
    rintro e w' ⟨rfl, rfl⟩
    go_wp2_with fail
    refine (Dr.drawBitmap HR.out (by omega)).mono ?_
    rintro e w1 ⟨n, b, c, hn, hb, _, rfl, hbel⟩
    have hn1 : (1 : Int) ≤ n := by omega
    have hn16 : (n : Int) ≤ 16 := by omega
    have HBN := Lib.hid hb; clear hb hn
    have HB1 := Lib.hid hbel; clear hbel
    have HBL : Hid ((b : Int) ≤ 9223372036854775807) := by show _ ≤ _; have := Bm.small (n := n) (by omega) HBN.out; omega
    obtain ⟨L, hL, hfr, hup, hlen2⟩ := Bm.free_facts n b (by omega) (by omega) HBN.out
    have HSZ : Hid ((ByteArray.mk (Bm.textL n b).toArray).size = n) := by show (Bm.textL n b).toArray.size = n; rw [List.size_toArray, Bm.text_facts n b (by omega) (by omega) HBN.out]
    have HL := Lib.hid hL; have HFR := Lib.hid hfr; have HUP := Lib.hid hup; have HLEN := Lib.hid hlen2
    clear hL hfr hup hlen2 HBN
    go_wp2_with fail
    refine (Bm.implFree _ _ _ (HT.out.below HB1.out).slotMasks).mono ?_
    rintro e w2 ⟨v, rfl, ho, hb⟩
    rw [HL.out] at ho
    have HO := Lib.hid ho; clear ho HL
    have HB2 := Lib.hid (HB1.out.trans (hb.mono HB1.out.size)); clear hb
    go_wp2_with fail
    refine (Bm.implText _ _ _ (HT.out.below HB2.out).slotMasks).mono ?_
    rintro e w3 ⟨rfl, hb⟩
    have HB3 := Lib.hid (HB2.out.trans (hb.mono HB2.out.size))
    have HO3 := Lib.hid (Il.own_kept HO.out hb); clear hb HO
    generalize ByteArray.mk (Bm.textL n b).toArray = s at *
    generalize hbz : (b : Int) = bz at *
    clear hbz
    obtain ⟨a, cp, rfl⟩ := Il.own_slice HO3.out
    generalize hm : L.length = m at *
    have HMM := Lib.hid hm; clear hm
    have hm16 : (m : Int) ≤ 16 := by
      have := HLEN.out
      have := Bm.count_nonneg bz
      omega
    go_wp2
    go_loopw [8] (fun c wr => ∃ (k d : Nat), k ≤ m ∧ c = .int .i64 k ∧ wr = w3.drewN d) (fun c _ => m - (intOf c).toNat)
    case atStart => exact ⟨0, 0, Nat.zero_le _, rfl, rfl⟩
    case round =>
      obtain ⟨k, d, hk, rfl, rfl⟩ := hrel
      by_cases hlt : (k : Int) < m
      · obtain ⟨g, c', hv, _, _⟩ := Il.own_form HO3.out (by omega)
        cases hv
        have hkl : k < L.length := by rw [HMM.out]; omega
        have hx := List.getElem?_eq_getElem hkl
        have hc : (w3.drewN d).cell? { block := g, off := k } = some (.int .i64 L[k]) := by
          have h := HO3.out.cellAt k (by omega)
          rw [Il.ints_at hkl] at h
          exact h
        generalize L[k] = x at *
        obtain ⟨f1, f2, f3⟩ := HFR.out k x hx
        have HQ : Hid (∀ w', Bm.Masks w' → Calls Tryd.prog 15 #[.int .i64 bz, .int .i64 x] w' fun e w'' => e = .returned (.bool false) ∧ w'' = w') := fun w' hm =>
          (Bm.implHas bz x w' HBL.out hm).mono fun e w'' h => ⟨by rw [h.1, f1], h.2.symm⟩
        have f2d : decide (x < 0) = false := by simp; omega
        have f3d : decide ((n : Int) ≤ x) = false := by simp; omega
        clear f1 f2 f3 hkl
        by_cases hk0 : k = 0
        · subst hk0
          clear hx
          rw [Int.natCast_zero] at hlt ⊢
          have HMW : Hid (Bm.Masks (w3.drewN d)) := (HT.out.below (Il.below_drewN HB3.out d)).slotMasks
          generalize hwr : w3.drewN d = w4 at *
          have HW := Lib.hid hwr; clear hwr
          go_wp2_with fail
          go_quiet ((go_at_call 15; exact Calls.quiet_of_same (HQ.out _ HMW.out)))
          go_wp2
          go_roundw
          case rel => exact ⟨1, d + nq, by omega, rfl, by rw [← HW.out, World.drewN_drewN]⟩
          case measure => simp [intOf]; omega
        · obtain ⟨j, rfl⟩ : ∃ j, k = j + 1 := ⟨k - 1, by omega⟩
          have hjl : j < L.length := by rw [HMM.out]; omega
          have hy := List.getElem?_eq_getElem hjl
          have hc2 : (w3.drewN d).cell? { block := g, off := j } = some (.int .i64 L[j]) := by
            have h := HO3.out.cellAt j (by omega)
            rw [Il.ints_at hjl] at h
            exact h
          have hyx := HUP.out j (j + 1) _ x (by omega) hy hx
          generalize L[j] = y at *
          have f4d : decide (x ≤ y) = false := by simp; omega
          clear hy hx hk0 hjl hyx
          have hj0 : (0 : Int) ≤ j := by omega
          have ej : (((j + 1 : Nat)) : Int) = (j : Int) + 1 := by omega
          rw [ej] at hlt ⊢
          clear ej
          have HMW : Hid (Bm.Masks (w3.drewN d)) := (HT.out.below (Il.below_drewN HB3.out d)).slotMasks
          generalize hwr : w3.drewN d = w4 at *
          have HW := Lib.hid hwr; clear hwr
          go_wp2_with fail
          go_quiet ((go_at_call 15; exact Calls.quiet_of_same (HQ.out _ HMW.out)))
          go_wp2
          go_roundw
          case rel => exact ⟨j + 2, d + nq, by omega, by go_num, by rw [← HW.out, World.drewN_drewN]⟩
          case measure => simp [intOf]; omega
      · obtain rfl : k = m := by omega
        have hlen3 := HLEN.out
        have hc0 := Bm.count_nonneg bz
        have ht : Hid ((ByteArray.mk (Bm.textL 4 5).toArray).toList = [120, 46, 120, 46]) := by show _ = _; rw [Bm.text45, ByteArray.toList_eq]
        have hb3 : Hid (Below w.heap.size w (w3.drewN d)) := Il.below_drewN HB3.out d
        clear HLEN
        go_wp2_with fail
        refine (Bm.implCount _ _ HBL.out).mono ?_
        rintro e w4 ⟨rfl, rfl⟩
        generalize Bm.count bz = cz at *
        have heq : ((k : Int) + cz == n) = true := by simp; omega
        have hsz : s.size = n := HSZ.out
        go_wp2_with fail
        refine (Bm.implText 4 5 _ (HT.out.below hb3.out).slotMasks).mono ?_
        rintro e w4 ⟨rfl, hb⟩
        have HB4 := Lib.hid (hb3.out.trans (hb.mono hb3.out.size)); clear hb
        generalize ByteArray.mk (Bm.textL 4 5).toArray = t at *
        have htl := ht.out
        go_wp2
        go_ret
        exact ⟨rfl, HB4.out⟩

set_option maxRecDepth 100000 in
theorem contract (H : Type) (enc : TypeId × Value → H) (W : World) (base : Nat) (args : Array Value) (ds gs : List (DataW H)) (before : List MemPlace)
    (hval0 : ∀ (j : Nat) t v, Tryd.f4.params[j]? = some t → args[j]? = some v → Value.okWide Tryd.prog W .any base t v)
    (hW : DataW.Whole enc Tryd.prog Tryd.f4.params.toList Rows.fnFreeSlotsSpec.vars false W args.toList ds gs before) (hT : Laid.LSlotMasks W) :
    Calls Tryd.prog 4 args W fun e W' => ∃ v, e = .returned v ∧ Rows.fnFreeSlotsSpec.post enc Tryd.prog Tryd.f4 false true false false W args v W' := by
  have hval : ∀ (j : Nat) t v, Tryd.f4.params[j]? = some t → args[j]? = some v → Value.okWide Tryd.prog W .any base t v := hval0
  have hW' := hW
  obtain ⟨p, q, hA0, hV, rfl, hfz, hnd⟩ := hW
  have hA : DataW.TrodAll enc Tryd.prog W 0 (fun _ => true) true Tryd.f4.params.toList args.toList ds p := hA0
  rw [Tryd.params4] at hA hval
  obtain ⟨v0, vs0, d0, ds0, p0, q0, hargs, rfl, rfl, h0, r0⟩ := trodAll_cons hA
  obtain ⟨rfl, rfl, rfl⟩ := trodAll_nil r0
  obtain rfl : args = #[v0] := by cases args; simp_all
  obtain ⟨g0, rfl⟩ := Laid.vars1 hV
  obtain ⟨a0, len0, cap0, rfl⟩ := okWide_slice Tryd.underlying22 (hval 0 22 v0 rfl rfl)
  have k0 := h0
  have lt0 : ∀ x ∈ p0, x.block < W.heap.size := by obtain ⟨m, hm⟩ := k0; exact DataW.trod_lt m _ _ _ hm
  obtain ⟨z0, w0⟩ : ∃ zs, IsRow .u8 W a0 len0 cap0 zs := by
    obtain ⟨fuel, hf⟩ := h0
    rcases open_ints Tryd.underlying22 Tryd.underlying5 (by kernel_rfl) hf with ⟨hcs, _⟩ | ⟨x, l, c, zs, hcs, _, hl, hm, hz, _, hcell, hwz⟩
    · simp [Value.cells] at hcs
      obtain ⟨rfl, rfl, rfl⟩ := hcs
      exact ⟨[], .inl ⟨rfl, rfl, rfl, rfl⟩⟩
    · simp [Value.cells] at hcs
      obtain ⟨rfl, rfl, rfl⟩ := hcs
      exact ⟨zs, .inr ⟨_, rfl, hl, hm, by simpa using hz, hcell, hwz⟩⟩
  clear hA0 hval0
  refine (walk a0 len0 cap0 z0 W w0 hT).mono fun e W' ⟨he, bel⟩ => ?_
  subst he
  exact ⟨_, rfl, _, _, _, [], _, q, hW', trodAll_mk1 (shut_bool Tryd.underlying4 _), (trodAll_cons_mk (Below.trod laidOut (by kernel_rfl) (of_decide_eq_true (by kernel_rfl)) k0 bel lt0) trodAll_mk0), bel.trodVars Laid.laidOut (by kernel_rfl) hV, bel.frame _, fun h => by cases h⟩

theorem laid_met (os : Os) : laidMet Tryd.prog Rows.fnFreeSlotsRow.laid ((Laid.world os).forCall (fun _ _ => 0) ⟨#[], #[.slice none 0 0], []⟩).memory :=
  laidMet_of_run' 8 (by kernel_rfl) (by kernel_rfl)
theorem witness_row (os : Os) {H : Type} (enc : TypeId × Value → H) :
    (OpenSpec.ofChange Rows.fnFreeSlotsSpec).preRow enc Tryd.prog Tryd.f4 Rows.fnFreeSlotsRow.domain false Rows.fnFreeSlotsRow.laid ((Laid.world os).forCall (fun _ _ => 0) ⟨#[], #[.slice none 0 0], []⟩).memory #[.slice none 0 0] := by
  have hw : (DataW.whole enc Tryd.prog ((Laid.world os).forCall (fun _ _ => 0) ⟨#[], #[.slice none 0 0], []⟩).memory Tryd.f4.params.toList Rows.fnFreeSlotsSpec.vars false (#[.slice none 0 0] : Array Value).toList 8).map (fun x => (x.1, x.2.1)) = some ([.nil], [Rows.laid_loop_example_g00978_impl_slotMasks]) := by kernel_rfl
  obtain ⟨⟨x1, x2, x3⟩, hx, hx1⟩ := Option.map_eq_some_iff.1 hw
  simp only [Prod.mk.injEq] at hx1
  obtain ⟨rfl, rfl⟩ := hx1
  exact OpenSpec.preRow_of_cond 8 hx (by kernel_rfl) (fun k hk => by cases hk) (by kernel_rfl) (laid_met os)

set_option maxRecDepth 100000 in
theorem lifted (os : Os) (started : os.Started) (H : Type) (enc : TypeId × Value → H) (F : Stop.Interp) :
    ReturnsInHanded {} Tryd.checked os 4 .any ((OpenSpec.ofChange Rows.fnFreeSlotsSpec).preRow enc Tryd.prog Tryd.f4 Rows.fnFreeSlotsRow.domain false Rows.fnFreeSlotsRow.laid) (((OpenSpec.ofChange Rows.fnFreeSlotsSpec).at F).post enc Tryd.prog Tryd.f4 false true false false) := by
  refine returnsInHanded_of_row (C := Tryd.checked) (s := OpenSpec.ofChange Rows.fnFreeSlotsSpec) own started (by kernel_rfl) Tryd.func4
    (witness_row_at (enc := enc) (C := Tryd.checked) false (Laid.world os) #[.slice none 0 0] rfl (by kernel_rfl) (by kernel_rfl) (by kernel_rfl) (witness_row os enc)) ?_
  intro W base args ds gs before hval hW _ _ _ hL _ _
  exact contract H enc W base args ds gs before hval hW (Laid.has_0 hL)

theorem said : Rows.FnFreeSlotsSaid :=
  OpenClaim.holds_of_cond 4 Tryd.f4 rfl rfl rfl rfl rfl rfl rfl ⟨rfl, rfl, rfl, rfl, rfl⟩ rfl rfl rfl rfl rfl (by kernel_rfl) Tryd.func4 (by kernel_rfl)
    (of_decide_eq_true (by kernel_rfl)) (by unfold Func.isWrapper; first | (rw [if_pos (by decide +kernel)]; kernel_rfl) | (rw [if_neg (by decide +kernel)]; exact ⟨rfl, rfl⟩))
    (fun os started H enc _ F => by rw [OpenClaim.pre_eq_preRow]; exact lifted os started H enc F)

theorem plain (f : FuncId) (fn : Func) (hf : Tryd.pinned.checked.prog.funcNamed "loop.example/g00978/laws.FnFreeSlots" = some f) (hfn : Tryd.pinned.checked.prog.funcs[f]? = some fn) :
    false = Tryd.pinned.checked.prog.looks [] ∧ ∀ (j : Nat) t, fn.params[j]? = some t → Tryd.pinned.checked.prog.wantsStandIn t = false := by
  obtain rfl : f = 4 := Option.some.inj ((show Tryd.prog.funcNamed "loop.example/g00978/laws.FnFreeSlots" = some 4 by kernel_rfl).symm.trans hf) |>.symm
  obtain rfl : fn = Tryd.f4 := (Option.some.inj (Tryd.func4.symm.trans hfn)).symm
  refine ⟨by kernel_rfl, fun j t ht => ?_⟩
  rw [Tryd.params4] at ht
  have hm := Array.mem_of_getElem? ht
  simp only [List.mem_toArray, List.mem_cons, List.not_mem_nil, or_false] at hm
  subst hm
  exact (show Tryd.prog.wantsStandIn 22 = false by kernel_rfl)

/-- THE CARD -/
theorem proved : Rows.FnFreeSlotsCardSaid :=
  Claim7.holds_tied_plain_at .later [] _ _ _ _ said (fun _ h => by cases h) (by kernel_rfl) (fun _ h => by cases h) fnFreeSlots_row_tie rfl ⟨rfl, rfl⟩ (by kernel_rfl) rfl plain (by kernel_rfl)
#print axioms proved
end Go.Proofs.YtecffgbidfffmaaDoor.fnFreeSlots

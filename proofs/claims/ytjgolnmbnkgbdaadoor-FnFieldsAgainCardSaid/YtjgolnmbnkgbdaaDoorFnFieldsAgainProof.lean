/- Called with any arguments, the law FnFieldsAgain returns true and each argument reads afterwards as before; the listed package-level variables hold what the program's text lays. -/
import Derived.Test.YtjgolnmbnkgbdaaDoorRows
import Derived.Test.YtjgolnmbnkgbdaaDoorFormatImpl
import Derived.Test.YtjgolnmbnkgbdaaDoorDrawFields
import Derived.Test.YtjgolnmbnkgbdaaDoorSplitSpec
import Derived.Test.YtjgolnmbnkgbdaaDoorStrList
import Derived.Test.YtjgolnmbnkgbdaaDoorFieldsMath
import Derived.Test.YtjgolnmbnkgbdaaDoorBig
import Derived.Test.YtjgolnmbnkgbdaaDoorCards
import Derived.Test.YtjgolnmbnkgbdaaDoorTie
import Derived.Test.YtjgolnmbnkgbdaaDoorLaid
import Derived.Deep.DeepHandedRow
import Derived.Deep.DeepWitnessRowRef
import Derived.Lib.LaidTab
import Derived.ChangeOld
import Derived.Below
import Derived.WalkKit
import Derived.ProofKit
import Derived.OpenShut
import Derived.ShutString
namespace Go.Proofs.YtjgolnmbnkgbdaaDoor.fnFieldsAgain
open Go.ChangeShapes Go.WideShapes Go.ChangeAt Go.RowKit
open Go.ChangeMaps (open_string shut_string)
set_option linter.unusedVariables false

theorem own : ownKnob Tryd.prog.godebug = none := by kernel_rfl
theorem laidOut : laidOutB Tryd.prog = true := by kernel_rfl

/-- WHAT THE WALK IS TOLD OF A SLICE OF INTEGERS THAT CAME IN: it is nil; or it leads to a row of 'cap' cells, the numbers 'zs' (the first 'len' are its elements, the rest its spare room), each fitting its kind. -/
def IsRow (k : IntKind) (w : World) (a : Option Addr) (len cap : Nat) (zs : List Int) : Prop :=
  (a = none ∧ len = 0 ∧ cap = 0 ∧ zs = []) ∨
  ∃ x, a = some x ∧ len ≤ cap ∧ cap ≤ maxLen ∧ zs.length = cap ∧ (∀ i, i < zs.length → w.cell? (x.add i) = some (.int k (zs.getD i 0))) ∧ ∀ n ∈ zs, (Lit.int k n).wf = true

/-! ### STEP 1: THE WALK: the Go text returns true, AND WRITES NOTHING THAT WAS THERE: 'Below w.heap.size w w'' (Derived/Below.lean: '.refl', '.alloc', '.drew', '.setCell' at a new block, '.trans'). Open each 'IsRow' by 'rcases' AHEAD of 'go_enter'; part every test ahead of the walk. -/
theorem walk (a0 : Option Addr) (len0 cap0 : Nat) (z0 : List Int) (w : World) (w0 : IsRow .u8 w a0 len0 cap0 z0) (hT : Laid.Has w) :
    Calls Tryd.prog 5 #[.slice a0 len0 cap0] w fun e w' => e = .returned (.bool true) ∧ Below w.heap.size w w' := by
  by_cases hbig : (1048576 : Int) < len0
  · go_enter Tryd.func5, Tryd.ntmps5
    go_wp2_with (go_at_call 8; refine (Dr.bigYes hbig).mono ?_; rintro e w' ⟨rfl, rfl⟩)
    go_ret
    exact ⟨rfl, Below.refl _ _⟩
  · have HR : Hid (Dr.IsRow .u8 w a0 len0 cap0 z0) := w0
    clear w0
    have HT := Lib.hid hT; clear hT
    have hlen : (len0 : Int) ≤ 1048576 := by omega
    go_enter Tryd.func5, Tryd.ntmps5
    go_wp2_with fail
    refine (Dr.bigNo hlen).mono ?_
    rintro e w' ⟨rfl, rfl⟩
    go_wp2_with fail
    refine (Dr.drawLine HR.out (by omega)).mono ?_
    rintro e w1 ⟨line, hl, rfl, hb⟩
    have HB := Lib.hid hb; clear hb hl
    go_wp2_with fail
    refine (Spl.impl_split _ _).mono ?_
    rintro e w2 hr
    obtain ⟨l, b, hlb⟩ := Spl.RetF.two line
    have HL := Lib.hid hlb.2; have HP := Lib.hid hlb.1; clear hlb
    obtain ⟨vp, rfl, ho, hb⟩ := HL.out _ _ _ hr
    clear hr
    have HOP := Lib.hid ho; clear ho
    have HB2 := Lib.hid (HB.out.trans (hb.mono HB.out.size)); clear hb
    go_wp2_with fail
    refine (Spl.spec_split _ _).mono ?_
    rintro e w3 hr
    obtain ⟨vq, rfl, ho, hb⟩ := HL.out _ _ _ hr
    clear hr ho
    have HOP3 := Lib.hid (Sl.own_kept HOP.out hb)
    have HB3 := Lib.hid (HB2.out.trans (hb.mono HB2.out.size)); clear hb
    cases b
    · obtain rfl : l = [] := by rcases HP.out with ⟨h, _⟩ | ⟨_, h⟩; · cases h
                                · exact h
      obtain ⟨x, c, hvp⟩ := Sl.own_slice' HOP3.out
      rw [show ([] : List (List UInt8)).length = 0 from rfl] at hvp
      subst hvp
      have h3 : ((ByteArray.mk (Lib.itoa (-3)).toArray).toList == [45, 51]) = true := by
        rw [ByteArray.toList_eq, show Lib.itoa (-3) = [45, 51] by simp [Lib.itoa, Lib.decDigits]]; rfl
      go_wp2_with fail
      refine (Fmt.implFormat (-3) _ (by decide) (HT.out.below HB3.out)).mono ?_
      rintro e w4 ⟨rfl, hb⟩
      have HB4 := Lib.hid (HB3.out.trans (hb.mono HB3.out.size)); clear hb
      generalize ByteArray.mk (Lib.itoa (-3)).toArray = t at *
      go_wp2
      go_ret
      exact ⟨rfl, HB4.out⟩
    · have HPF : Hid ((∀ f ∈ l, Spl.Fld f ∧ f.length ≤ 600) ∧ l.length ≤ 24) := by
        rcases HP.out with ⟨_, h1, h2⟩ | ⟨h, _⟩
        · exact ⟨h1, h2⟩
        · cases h
      clear HL HP
      obtain ⟨x, c, hvp⟩ := Sl.own_slice' HOP3.out
      subst hvp
      have hn24 : (l.length : Int) ≤ 24 := by have := HPF.out.2; omega
      generalize hn : l.length = n at *
      have HN := Lib.hid hn; clear hn
      go_wp2
      go_loop [8, 9] (fun v c => ∃ i : Nat, i ≤ n ∧ c = .int .i64 i ∧ v = .string ⟨(Spl.joinS (l.take i)).toArray⟩) (fun _ c => n - (intOf c).toNat)
      case atStart => exact ⟨0, Nat.zero_le _, rfl, rfl⟩
      case round =>
        obtain ⟨i, hi, rfl, rfl⟩ := hrel
        by_cases hlt : (i : Int) < n
        · have hi0 : (0 : Int) ≤ i := by omega
          have hil : i < l.length := by rw [HN.out]; omega
          obtain ⟨g, c2, e, _, _⟩ := Sl.own_form HOP3.out (by omega)
          injection e with e1 e2 e3
          subst e1; subst e3
          have hca := HOP3.out.cellAt i (by omega)
          obtain ⟨f, hf, hfs, hsz, hj⟩ := Spl.join_next l i hil (fun f hf => (HPF.out.1 f hf).2) (by rw [HN.out]; exact HPF.out.2)
          rw [hf] at hca
          have HJ := Lib.hid hj
          clear hj hf hil
          have hc1 : ¬ (9223372036854775807 < (ByteArray.mk (Spl.joinS (l.take i)).toArray).size + f.size) := by omega
          have hc2 : ¬ (9223372036854775807 < (ByteArray.mk (Spl.joinS (l.take i)).toArray).size + f.size + 1) := by omega
          generalize ByteArray.mk (Spl.joinS (l.take i)).toArray = t at *
          go_wp2
          go_round
          case rel => exact ⟨i + 1, by omega, by go_num, congrArg Value.string HJ.out⟩
          case measure => simp [intOf]; omega
        · obtain rfl : i = n := by omega
          rw [List.take_of_length_le (by rw [HN.out]; omega)]
          by_cases hbg : 600 < (ByteArray.mk (Spl.joinS l).toArray).size
          · have hbg' : (600 : Int) < ((ByteArray.mk (Spl.joinS l).toArray).size : Int) := by omega
            obtain ⟨l2, b2, _, hl2⟩ := Spl.RetF.one (ByteArray.mk (Spl.joinS l).toArray)
            have HL2 := Lib.hid hl2; clear hl2
            go_wp2_with fail
            refine (Spl.impl_split _ _).mono ?_
            rintro e w4 hr
            obtain ⟨v4, rfl, _, hb⟩ := HL2.out _ _ _ hr
            clear hr
            have HB4 := Lib.hid (HB3.out.trans (hb.mono HB3.out.size)); clear hb HL2
            generalize ByteArray.mk (Spl.joinS l).toArray = t at *
            go_wp2
            go_ret
            exact ⟨rfl, HB4.out⟩
          · have hbg' : ((ByteArray.mk (Spl.joinS l).toArray).size : Int) ≤ 600 := by omega
            have HSZ := Lib.hid (show (ByteArray.mk (Spl.joinS l).toArray).size ≤ 600 by omega)
            go_wp2_with fail
            refine (Spl.impl_split _ _).mono ?_
            rintro e w4 hr
            obtain ⟨v4, rfl, ho, hb⟩ := Spl.again (fun f hf => (HPF.out.1 f hf).1) (by rw [HN.out]; exact HPF.out.2) HSZ.out hr
            clear hr
            have HO4 := Lib.hid ho; clear ho
            have HB4 := Lib.hid (HB3.out.trans (hb.mono HB3.out.size))
            have HOP4 := Lib.hid (Sl.own_kept HOP3.out hb); clear hb HSZ hbg
            generalize ByteArray.mk (Spl.joinS l).toArray = t at *
            have hd : decide ((600 : Int) < t.size) = false := by simpa using hbg'
            go_wp2_with fail
            refine (Sl.sameStrs l _ v4 w1.heap.size w3.heap.size w4 (by rw [HN.out]; exact HOP4.out) HO4.out (by rw [HN.out]; omega)).mono ?_
            rintro e w' ⟨rfl, m, rfl⟩
            go_wp2
            go_ret
            exact ⟨rfl, ⟨HB4.out.os, HB4.out.tape, HB4.out.output, HB4.out.size, HB4.out.block⟩⟩

set_option maxRecDepth 100000 in
theorem contract (H : Type) (enc : TypeId × Value → H) (W : World) (base : Nat) (args : Array Value) (ds gs : List (DataW H)) (before : List MemPlace)
    (hval0 : ∀ (j : Nat) t v, Tryd.f5.params[j]? = some t → args[j]? = some v → Value.okWide Tryd.prog W .any base t v)
    (hW : DataW.Whole enc Tryd.prog Tryd.f5.params.toList Rows.fnFieldsAgainSpec.vars false W args.toList ds gs before) (hT : Laid.Has W) :
    Calls Tryd.prog 5 args W fun e W' => ∃ v, e = .returned v ∧ Rows.fnFieldsAgainSpec.post enc Tryd.prog Tryd.f5 false true false false W args v W' := by
  have hval : ∀ (j : Nat) t v, Tryd.f5.params[j]? = some t → args[j]? = some v → Value.okWide Tryd.prog W .any base t v := hval0
  have hW' := hW
  obtain ⟨p, q, hA0, hV, rfl, hfz, hnd⟩ := hW
  have hA : DataW.TrodAll enc Tryd.prog W 0 (fun _ => true) true Tryd.f5.params.toList args.toList ds p := hA0
  rw [Tryd.params5] at hA hval
  obtain ⟨v0, vs0, d0, ds0, p0, q0, hargs, rfl, rfl, h0, r0⟩ := trodAll_cons hA
  obtain ⟨rfl, rfl, rfl⟩ := trodAll_nil r0
  obtain rfl : args = #[v0] := by cases args; simp_all
  obtain ⟨rfl, rfl⟩ := trodVars_none hV
  obtain ⟨a0, len0, cap0, rfl⟩ := okWide_slice Tryd.underlying22 (hval 0 22 v0 rfl rfl)
  have k0 := h0
  have lt0 : ∀ x ∈ p0, x.block < W.heap.size := by obtain ⟨m, hm⟩ := k0; exact DataW.trod_lt m _ _ _ hm
  obtain ⟨z0, w0⟩ : ∃ zs, IsRow .u8 W a0 len0 cap0 zs := by
    obtain ⟨fuel, hf⟩ := h0
    rcases open_ints Tryd.underlying22 Tryd.underlying5 (by kernel_rfl) hf with ⟨hcs, _⟩ | ⟨x, l, c, zs, hcs, _, hl, hm, hz, _, hcell, hwz⟩
    · simp [Value.cells] at hcs
      obtain ⟨rfl, rfl, rfl⟩ := hcs
      exact ⟨[], .inl ⟨rfl, rfl, rfl, rfl⟩⟩
    · simp [Value.cells] at hcs
      obtain ⟨rfl, rfl, rfl⟩ := hcs
      exact ⟨zs, .inr ⟨_, rfl, hl, hm, by simpa using hz, hcell, hwz⟩⟩
  clear hA0 hval0
  refine (walk a0 len0 cap0 z0 W w0 hT).mono fun e W' ⟨he, bel⟩ => ?_
  subst he
  exact ⟨_, rfl, _, _, _, [], _, [], hW', trodAll_mk1 (shut_bool Tryd.underlying4 _), (trodAll_cons_mk (Below.trod laidOut (by kernel_rfl) (of_decide_eq_true (by kernel_rfl)) k0 bel lt0) trodAll_mk0), rfl, bel.frame _, fun h => by cases h⟩

theorem laid_met (os : Os) : laidMet Tryd.prog Rows.fnFieldsAgainRow.laid ((Laid.world os).forCall (fun _ _ => 0) ⟨#[], #[.slice none 0 0], []⟩).memory :=
  laidMet_of_run' 8 (by kernel_rfl) (by kernel_rfl)
theorem witness_row (os : Os) {H : Type} (enc : TypeId × Value → H) :
    (OpenSpec.ofChange Rows.fnFieldsAgainSpec).preRow enc Tryd.prog Tryd.f5 Rows.fnFieldsAgainRow.domain false Rows.fnFieldsAgainRow.laid ((Laid.world os).forCall (fun _ _ => 0) ⟨#[], #[.slice none 0 0], []⟩).memory #[.slice none 0 0] := by
  have hw : (DataW.whole enc Tryd.prog ((Laid.world os).forCall (fun _ _ => 0) ⟨#[], #[.slice none 0 0], []⟩).memory Tryd.f5.params.toList Rows.fnFieldsAgainSpec.vars false (#[.slice none 0 0] : Array Value).toList 8).map (fun x => (x.1, x.2.1)) = some ([.nil], []) := by kernel_rfl
  obtain ⟨⟨x1, x2, x3⟩, hx, hx1⟩ := Option.map_eq_some_iff.1 hw
  simp only [Prod.mk.injEq] at hx1
  obtain ⟨rfl, rfl⟩ := hx1
  exact OpenSpec.preRow_of_cond 8 hx (by kernel_rfl) (fun k hk => by cases hk) (by kernel_rfl) (laid_met os)

set_option maxRecDepth 100000 in
theorem lifted (os : Os) (started : os.Started) (H : Type) (enc : TypeId × Value → H) (F : Stop.Interp) :
    ReturnsInHanded {} Tryd.checked os 5 .any ((OpenSpec.ofChange Rows.fnFieldsAgainSpec).preRow enc Tryd.prog Tryd.f5 Rows.fnFieldsAgainRow.domain false Rows.fnFieldsAgainRow.laid) (((OpenSpec.ofChange Rows.fnFieldsAgainSpec).at F).post enc Tryd.prog Tryd.f5 false true false false) := by
  refine returnsInHanded_of_row (C := Tryd.checked) (s := OpenSpec.ofChange Rows.fnFieldsAgainSpec) own started (by kernel_rfl) Tryd.func5
    (witness_row_at (enc := enc) (C := Tryd.checked) false (Laid.world os) #[.slice none 0 0] rfl (by kernel_rfl) (by kernel_rfl) (by kernel_rfl) (witness_row os enc)) ?_
  intro W base args ds gs before hval hW _ _ _ hL _ _
  exact contract H enc W base args ds gs before hval hW (Laid.has3 hL)

theorem said : Rows.FnFieldsAgainSaid :=
  OpenClaim.holds_of_cond 5 Tryd.f5 rfl rfl rfl rfl rfl rfl rfl ⟨rfl, rfl, rfl, rfl, rfl⟩ rfl rfl rfl rfl rfl (by kernel_rfl) Tryd.func5 (by kernel_rfl)
    (of_decide_eq_true (by kernel_rfl)) (by unfold Func.isWrapper; first | (rw [if_pos (by decide +kernel)]; kernel_rfl) | (rw [if_neg (by decide +kernel)]; exact ⟨rfl, rfl⟩))
    (fun os started H enc _ F => by rw [OpenClaim.pre_eq_preRow]; exact lifted os started H enc F)

theorem plain (f : FuncId) (fn : Func) (hf : Tryd.pinned.checked.prog.funcNamed "loop.example/g00978/laws.FnFieldsAgain" = some f) (hfn : Tryd.pinned.checked.prog.funcs[f]? = some fn) :
    true = Tryd.pinned.checked.prog.looks [] ∧ ∀ (j : Nat) t, fn.params[j]? = some t → Tryd.pinned.checked.prog.wantsStandIn t = false := by
  obtain rfl : f = 5 := Option.some.inj ((show Tryd.prog.funcNamed "loop.example/g00978/laws.FnFieldsAgain" = some 5 by kernel_rfl).symm.trans hf) |>.symm
  obtain rfl : fn = Tryd.f5 := (Option.some.inj (Tryd.func5.symm.trans hfn)).symm
  refine ⟨by kernel_rfl, fun j t ht => ?_⟩
  rw [Tryd.params5] at ht
  have hm := Array.mem_of_getElem? ht
  simp only [List.mem_toArray, List.mem_cons, List.not_mem_nil, or_false] at hm
  subst hm
  exact (show Tryd.prog.wantsStandIn 22 = false by kernel_rfl)

/-- THE CARD -/
theorem proved : Rows.FnFieldsAgainCardSaid :=
  Claim7.holds_tied_plain_at .later [] _ _ _ _ said (fun _ h => by cases h) (by kernel_rfl) (fun _ h => by cases h) fnFieldsAgain_row_tie rfl ⟨rfl, rfl⟩ (by kernel_rfl) rfl plain (by kernel_rfl)
#print axioms proved
end Go.Proofs.YtjgolnmbnkgbdaaDoor.fnFieldsAgain

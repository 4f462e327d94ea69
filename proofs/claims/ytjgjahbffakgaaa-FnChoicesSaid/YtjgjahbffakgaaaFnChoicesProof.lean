/- Called with any arguments, the law FnChoices returns true and each argument reads afterwards as before. No condition. -/
import Derived.Test.YtjgjahbffakgaaaRows
import Derived.Test.YtjgjahbffakgaaaBig
import Derived.Test.YtjgjahbffakgaaaDrawPlaces
import Derived.Test.YtjgjahbffakgaaaSeedsImpl
import Derived.WalkKit
import Derived.ProofKit
import Derived.OpenShut
import Derived.ShutString
import Derived.ChangeOld
import Derived.Below
namespace Go.Proofs.Ytjgjahbffakgaaa.fnChoices
open Go.ChangeShapes Go.WideShapes Go.ChangeAt Go.RowKit
open Go.ChangeMaps (open_string shut_string)
set_option linter.unusedVariables false

theorem own : ownKnob Try.prog.godebug = none := by kernel_rfl
theorem laidOut : laidOutB Try.prog = true := by kernel_rfl

/-- WHAT THE WALK IS TOLD OF A SLICE OF INTEGERS THAT CAME IN: it is nil; or it leads to a row of 'cap' cells, the numbers 'zs' (the first 'len' are its elements, the rest its spare room), each fitting its kind. -/
def IsRow (k : IntKind) (w : World) (a : Option Addr) (len cap : Nat) (zs : List Int) : Prop :=
  (a = none ∧ len = 0 ∧ cap = 0 ∧ zs = []) ∨
  ∃ x, a = some x ∧ len ≤ cap ∧ cap ≤ maxLen ∧ zs.length = cap ∧ (∀ i, i < zs.length → w.cell? (x.add i) = some (.int k (zs.getD i 0))) ∧ ∀ n ∈ zs, (Lit.int k n).wf = true

/-! ### STEP 1: THE WALK: the Go text returns true, AND WRITES NOTHING THAT WAS THERE: 'Below w.heap.size w w'' (Derived/Below.lean: '.refl', '.alloc', '.drew', '.setCell' at a new block, '.trans'). Open each 'IsRow' by 'rcases' AHEAD of 'go_enter'; part every test ahead of the walk. -/
theorem walk (a0 : Option Addr) (len0 cap0 : Nat) (z0 : List Int) (w : World) (w0 : IsRow .u8 w a0 len0 cap0 z0) :
    Calls Try.prog 4 #[.slice a0 len0 cap0] w fun e w' => e = .returned (.bool true) ∧ Below w.heap.size w w' := by
  by_cases hbig : (1048576 : Int) < len0
  · go_enter Try.func4, Try.ntmps4
    go_wp2_with (go_at_call 8; refine (Dr.bigYes hbig).mono ?_; rintro e w' ⟨rfl, rfl⟩)
    go_ret
    exact ⟨rfl, Below.refl _ _⟩
  · have HR : Hid (Dr.IsRow .u8 w a0 len0 cap0 z0) := w0
    clear w0
    have hlen : (len0 : Int) ≤ 1048576 := by omega
    go_enter Try.func4, Try.ntmps4
    go_wp2_with fail
    refine (Dr.bigNo hlen).mono ?_
    rintro e w' ⟨rfl, rfl⟩
    go_wp2_with fail
    refine (Dr.drawPlaces HR.out (by omega)).mono ?_
    rintro e w2 ⟨v, l, hl, hx, rfl, ho, hbel⟩
    have HB2 := Lib.hid hbel; clear hbel
    obtain ⟨g, cp, rfl, _, _⟩ := Il.own_form ho (by omega)
    have hc0 := ho.cellAt 0 (by omega)
    have hc1 := ho.cellAt 1 (by omega)
    rw [Il.ints_at (by omega)] at hc0 hc1
    have hx0 := hx (l[0]'(by omega)) (List.getElem_mem _)
    have hx1 := hx (l[1]'(by omega)) (List.getElem_mem _)
    generalize l[0]'(by omega) = x0 at *
    generalize l[1]'(by omega) = x1 at *
    clear ho hx hl
    obtain ⟨n, hn, hn1, hn50⟩ : ∃ n : Nat, 1 + x0 % 50 = n ∧ 1 ≤ n ∧ n ≤ 50 := ⟨(1 + x0 % 50).toNat, by omega, by omega, by omega⟩
    have HN := Lib.hid hn; clear hn
    obtain ⟨k, hk, hkn⟩ := Sd.pickK_yes x1 n (by omega) (by omega) ⟨by omega, by omega⟩
    have hs := Sd.pickS_yes x1 n (by omega) (by omega) ⟨by omega, by omega⟩
    have HC : Hid (∀ w, Calls Try.prog 12 #[.int .i64 x1, .int .i64 (n : Int)] w (Sd.PairP k (Sd.nextN x1) w)) := fun w => by
      have := Sd.implChoose x1 n w; rw [hk, hs] at this; exact this
    have HX : Hid (∀ w, Calls Try.prog 13 #[.int .i64 x1] w (Bm.NumP (Sd.nextN x1) w)) := fun w => Sd.implNext x1 w
    have HE : Hid ((k : Int) = Sd.nextN x1 / 1024 % n) := by
      show _ = _
      rw [← hk]; unfold Sd.pickK; rw [if_pos (by omega)]
    obtain ⟨ht0, ht1⟩ := Sd.nextN_in x1
    generalize Sd.nextN x1 = t at *
    clear hk hs
    have hk0 : (0 : Int) ≤ k := by omega
    have hkn' : (k : Int) < n := by omega
    have hn0 : ((n : Int) == 0) = false := by simp; omega
    have hnn : (0 : Int) ≤ n := by omega
    have htt : (t == t) = true := by simp
    have hkk : ((k : Int) == t / 1024 % n) = true := by rw [← HE.out]; simp
    go_wp2_with fail
    rw [HN.out]
    refine (HC.out _).mono ?_
    rintro e w3 ⟨rfl, rfl⟩
    go_wp2_with fail
    refine (HX.out _).mono ?_
    rintro e w3 ⟨rfl, rfl⟩
    go_wp2_with fail
    refine (Sd.implNext 0 _).mono ?_
    rintro e w3 ⟨rfl, rfl⟩
    rw [show Sd.nextN 0 = 12345 from rfl]
    go_wp2
    go_ret
    exact ⟨rfl, HB2.out⟩

/-! ### THE ROW's STEP: WRITTEN OUT: LEAVE IT -/
set_option maxRecDepth 100000 in
theorem lifted (os : Os) (started : os.Started) (H : Type) (enc : TypeId × Value → H) :
    ReturnsInHanded {} Try.checked os 4 .any (Rows.fnChoicesSpec.pre6 enc Try.prog Try.f4 Rows.fnChoicesRow.domain false) (Rows.fnChoicesSpec.post enc Try.prog Try.f4 false true false false) := by
  refine returnsInHanded_of_change (C := Try.checked) own started (by kernel_rfl) Try.func4
    (ChangeSpec.witness6 (enc := enc) (C := Try.checked) false ⟨#[], #[.slice none 0 0], []⟩ 8 (by kernel_rfl) (by kernel_rfl) (by kernel_rfl) (by kernel_rfl)) ?_
  intro W base args ds gs before hval0 hW hcnd _
  have hval : ∀ (j : Nat) t v, Try.f4.params[j]? = some t → args[j]? = some v → Value.okWide Try.prog W .any base t v := hval0
  have hW' := hW
  obtain ⟨p, q, hA0, hV, rfl, hfz, hnd⟩ := hW
  have hA : DataW.TrodAll enc Try.prog W 0 (fun _ => true) true Try.f4.params.toList args.toList ds p := hA0
  rw [Try.params4] at hA hval
  obtain ⟨v0, vs0, d0, ds0, p0, q0, hargs, rfl, rfl, h0, r0⟩ := trodAll_cons hA
  obtain ⟨rfl, rfl, rfl⟩ := trodAll_nil r0
  obtain rfl : args = #[v0] := by cases args; simp_all
  obtain ⟨rfl, rfl⟩ := trodVars_none hV
  obtain ⟨a0, len0, cap0, rfl⟩ := okWide_slice Try.underlying22 (hval 0 22 v0 rfl rfl)
  have k0 := h0
  have lt0 : ∀ x ∈ p0, x.block < W.heap.size := by obtain ⟨m, hm⟩ := k0; exact DataW.trod_lt m _ _ _ hm
  obtain ⟨z0, w0⟩ : ∃ zs, IsRow .u8 W a0 len0 cap0 zs := by
    obtain ⟨fuel, hf⟩ := h0
    rcases open_ints Try.underlying22 Try.underlying5 (by kernel_rfl) hf with ⟨hcs, _⟩ | ⟨x, l, c, zs, hcs, _, hl, hm, hz, _, hcell, hwz⟩
    · simp [Value.cells] at hcs
      obtain ⟨rfl, rfl, rfl⟩ := hcs
      exact ⟨[], .inl ⟨rfl, rfl, rfl, rfl⟩⟩
    · simp [Value.cells] at hcs
      obtain ⟨rfl, rfl, rfl⟩ := hcs
      exact ⟨zs, .inr ⟨_, rfl, hl, hm, by simpa using hz, hcell, hwz⟩⟩
  clear hA0 hval0
  refine (walk a0 len0 cap0 z0 W w0).mono fun e W' ⟨he, bel⟩ => ?_
  subst he
  exact ⟨_, rfl, _, _, _, [], _, [], hW', trodAll_mk1 (shut_bool Try.underlying4 _), (trodAll_cons_mk (Below.trod laidOut (by kernel_rfl) (of_decide_eq_true (by kernel_rfl)) k0 bel lt0) trodAll_mk0), rfl, bel.frame _, fun h => by cases h⟩

theorem over : Rows.fnChoicesRow.holds Try.pinned (OpenSpec.ofChange Rows.fnChoicesSpec) :=
  OpenClaim.holds_of_wide 4 Try.f4 rfl rfl rfl rfl rfl rfl rfl ⟨rfl, rfl, rfl, rfl, rfl⟩ rfl rfl rfl rfl rfl (by kernel_rfl) Try.func4 (by kernel_rfl)
    (of_decide_eq_true (by kernel_rfl)) (by unfold Func.isWrapper; first | (rw [if_pos (by decide +kernel)]; kernel_rfl) | (rw [if_neg (by decide +kernel)]; exact ⟨rfl, rfl⟩))
    (fun os started H enc _ => lifted os started H enc)

/-- ████ THE STATEMENT ████ -/
theorem proved : Rows.FnChoicesSaid := over
#print axioms proved
end Go.Proofs.Ytjgjahbffakgaaa.fnChoices

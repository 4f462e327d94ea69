/- Called with any arguments, the law FnShuffled returns true and each argument reads afterwards as before. No condition. -/
import Derived.Test.YtjgjahbffakgaaaRows
import Derived.Test.YtjgjahbffakgaaaBig
import Derived.Test.YtjgjahbffakgaaaDrawPlaces
import Derived.Test.YtjgjahbffakgaaaSeedsImpl
import Derived.WalkKit
import Derived.ProofKit
import Derived.OpenShut
import Derived.ShutString
import Derived.ChangeOld
import Derived.Below
namespace Go.Proofs.Ytjgjahbffakgaaa.fnShuffled
open Go.ChangeShapes Go.WideShapes Go.ChangeAt Go.RowKit
open Go.ChangeMaps (open_string shut_string)
set_option linter.unusedVariables false

theorem own : ownKnob Try.prog.godebug = none := by kernel_rfl
theorem laidOut : laidOutB Try.prog = true := by kernel_rfl

/-- WHAT THE WALK IS TOLD OF A SLICE OF INTEGERS THAT CAME IN: it is nil; or it leads to a row of 'cap' cells, the numbers 'zs' (the first 'len' are its elements, the rest its spare room), each fitting its kind. -/
def IsRow (k : IntKind) (w : World) (a : Option Addr) (len cap : Nat) (zs : List Int) : Prop :=
  (a = none ∧ len = 0 ∧ cap = 0 ∧ zs = []) ∨
  ∃ x, a = some x ∧ len ≤ cap ∧ cap ≤ maxLen ∧ zs.length = cap ∧ (∀ i, i < zs.length → w.cell? (x.add i) = some (.int k (zs.getD i 0))) ∧ ∀ n ∈ zs, (Lit.int k n).wf = true

/-! ### STEP 1: THE WALK: the Go text returns true, AND WRITES NOTHING THAT WAS THERE: 'Below w.heap.size w w'' (Derived/Below.lean: '.refl', '.alloc', '.drew', '.setCell' at a new block, '.trans'). Open each 'IsRow' by 'rcases' AHEAD of 'go_enter'; part every test ahead of the walk. -/
theorem walk (a0 : Option Addr) (len0 cap0 : Nat) (z0 : List Int) (w : World) (w0 : IsRow .u8 w a0 len0 cap0 z0) :
    Calls Try.prog 3 #[.slice a0 len0 cap0] w fun e w' => e = .returned (.bool true) ∧ Below w.heap.size w w' := by
  by_cases hbig : (1048576 : Int) < len0
  · go_enter Try.func3, Try.ntmps3
    go_wp2_with (go_at_call 8; refine (Dr.bigYes hbig).mono ?_; rintro e w' ⟨rfl, rfl⟩)
    go_ret
    exact ⟨rfl, Below.refl _ _⟩
  · have HR : Hid (Dr.IsRow .u8 w a0 len0 cap0 z0) := w0
    clear w0
    have hlen : (len0 : Int) ≤ 1048576 := by omega
    go_enter Try.func3, Try.ntmps3
    go_wp2_with fail
    refine (Dr.bigNo hlen).mono ?_
    rintro e w' ⟨rfl, rfl⟩
    go_wp2_with fail
    refine (Dr.drawPlaces HR.out (by omega)).mono ?_
    rintro e w1 ⟨v, l, hl, hx, rfl, ho, hbel⟩
    have HB1 := Lib.hid hbel; clear hbel
    obtain ⟨gp, cpp, rfl, _, _⟩ := Il.own_form ho (by omega)
    have hc0 := ho.cellAt 0 (by omega)
    have hc1 := ho.cellAt 1 (by omega)
    have HOP := Lib.hid ho
    rw [Il.ints_at (by omega)] at hc0 hc1
    have hx0 := hx (l[0]'(by omega)) (List.getElem_mem _)
    have hx1 := hx (l[1]'(by omega)) (List.getElem_mem _)
    have HX1 : Hid ((Il.ints l)[1]? = some (.int .i64 (l[1]'(by omega)))) := Il.ints_at (by omega)
    generalize l[0]'(by omega) = x0 at *
    generalize l[1]'(by omega) = x1 at *
    clear ho hx hl
    obtain ⟨n, hn, hn1, hn16⟩ : ∃ n : Nat, 1 + x0 % 16 = n ∧ 1 ≤ n ∧ n ≤ 16 := ⟨(1 + x0 % 16).toNat, by omega, by omega, by omega⟩
    have HN := Lib.hid hn; clear hn
    have hxs : 0 ≤ x1 ∧ x1 ≤ 1073741823 := ⟨by omega, by omega⟩
    have HC : Hid (∀ w, Calls Try.prog 10 #[.int .i64 x1, .int .i64 (n : Int)] w (Sd.ShufP (Sd.rowF n (Sd.shufF n x1)) (Sd.shufS n x1) w)) := fun w => by
      have := Sd.implShuf x1 n w
      unfold Sd.outL Sd.outS at this
      rw [if_pos ⟨by omega, hxs⟩, if_pos ⟨by omega, hxs⟩, Int.toNat_natCast] at this
      exact this
    have HNE : Hid (2 ≤ n → Sd.shufS n x1 ≠ x1) := fun h => Sd.shufS_ne n x1 h hn16 hxs
    have HPM := Lib.hid (Sd.st_perm n x1 (by omega) hxs (n - 1) (Nat.le_refl _))
    have HPM : Hid ((∀ j, j < n → Sd.shufF n x1 j < n) ∧ (∀ a b, a < n → b < n → Sd.shufF n x1 a = Sd.shufF n x1 b → a = b)) := HPM.out
    generalize Sd.shufF n x1 = f at *
    generalize Sd.shufS n x1 = t at *
    clear hxs
    obtain ⟨i0, hi, hz0, hz1, hz2⟩ := info_parts Sd.info_bool
    go_wp2_with fail
    rw [HN.out]
    refine (HC.out _).mono ?_
    rintro e w2 ⟨v2, rfl, ho, hb⟩
    rw [Sd.rowF_len] at ho
    have HO2 := Lib.hid ho; clear ho
    have HOP2 := Lib.hid (Il.own_kept HOP.out hb); clear HOP
    have HB2 := Lib.hid (HB1.out.trans (hb.mono HB1.out.size)); clear hb
    have hn0 : (0 : Int) ≤ n := by omega
    have hn2 : (n : Int) ≤ 16 := by omega
    go_wp2_with (at_make; refine wpList_make_full _ rfl _ _ 28 rfl w2.heap.size 4 i0 (.bool false) 1 Try.underlying28 hi hz0 hz1 _ _ _ _ n rfl rfl rfl rfl (by rw [hz2]; omega) (by unfold maxLen; omega) (Nat.le_refl _) ?_)
    intro w3 hown hgrow
    have hS0 : Hid (w3.ownsRow w2.heap.size 4 1 (.slice (some ⟨w2.heap.size, 0, none⟩) n n) n (Sd.rowB n (Sd.seen f 0))) := by
      show World.ownsRow _ _ _ _ _ _ _
      rw [← Sd.rowB_zero, ← toList_madeCells_one]; exact hown
    have hb0 := Lib.hid ((Below.refl w2.heap.size w2).grown hgrow (Nat.le_refl _) (fun _ h => by cases h))
    clear hown hgrow
    obtain ⟨g2, c2, rfl, hg2a, hg2b⟩ := Il.own_form HO2.out (by omega)
    generalize hB : w2.heap.size = B at *
    have HB := Lib.hid hB; clear hB
    go_wp2_with fail
    go_loopw [8] (fun c wr => ∃ (i : Nat), i ≤ n ∧ c = .int .i64 i ∧ Hid (wr.ownsRow B 4 1 (.slice (some ⟨B, 0, none⟩) n n) n (Sd.rowB n (Sd.seen f i))) ∧ Hid (Below B w2 wr)) (fun c _ => n - (intOf c).toNat)
    case atStart => exact ⟨0, Nat.zero_le _, rfl, hS0.out, hb0.out⟩
    case round =>
      clear hS0 hb0
      obtain ⟨i, hin, rfl, HS, HBL⟩ := hrel
      have HO := Lib.hid (Il.own_kept HO2.out (by rw [HB.out]; exact HBL.out))
      have HOP := Lib.hid (Il.own_kept HOP2.out (by rw [HB.out]; exact HBL.out))
      have hi0 : (0 : Int) ≤ i := by omega
      by_cases hlt : (i : Int) < n
      · have hik : i < n := by omega
        have hcL : wr.cell? ⟨g2, i, none⟩ = some (.int .i64 (f i)) := by rw [HO.out.cellAt i (by omega)]; exact Sd.row_at n f i hik
        have HSN := Lib.hid (Sd.seen_no f n i HPM.out.2 hik)
        have HSS := Lib.hid (Sd.rowB_set n f i)
        have hq := HPM.out.1 i hik
        generalize f i = q at *
        have hcS : wr.cell? ⟨B, q, none⟩ = some (.bool false) := by rw [HS.out.cellAt q (by omega), Sd.rowB_at n _ q hq, HSN.out]
        have hfz := HS.out.frozenAt q
        have hst := HS.out.stored q (.bool true)
        have HS2 := Lib.hid hst.1
        have HB2 := Lib.hid (HBL.out.grown hst.2 (Nat.le_trans (Nat.le_of_eq HB.out.symm) HBL.out.size) (fun x hx => by cases hx; exact Nat.le_refl _))
        clear hst
        have hq0 : (0 : Int) ≤ q := by omega
        have hqn : (q : Int) < n := by omega
        have f1d : decide ((q : Int) < 0) = false := by simp
        have f2d : decide ((n : Int) ≤ (q : Int)) = false := by simp; omega
        go_wp2
        go_roundw
        case rel => exact ⟨i + 1, by omega, by go_num, by show World.ownsRow _ _ _ _ _ _ _; rw [← HSS.out]; exact HS2.out, HB2.out⟩
        case measure => simp [intOf]; omega
      · obtain rfl : i = n := by omega
        have hd : decide ((i : Int) < i) = false := by simp
        have hcp : wr.cell? ⟨gp, 1, none⟩ = some (.int .i64 x1) := by rw [HOP.out.cellAt 1 (by omega)]; exact HX1.out
        have HBW : Hid (Below w.heap.size w wr) := HB2.out.trans (Below.mono (by rw [← HB.out] at HBL; exact HBL.out) HB2.out.size)
        go_wp2_with fail
        refine (HC.out _).mono ?_
        rintro e w5 ⟨v5, rfl, ho5, hb5⟩
        rw [Sd.rowF_len] at ho5
        have HO5 := Lib.hid ho5; clear ho5
        have HOX := Lib.hid (Il.own_kept HO.out hb5)
        have HOP5 := Lib.hid (Il.own_kept HOP.out hb5)
        have HBW5 := Lib.hid (HBW.out.trans (hb5.mono HBW.out.size)); clear hb5
        clear hcp hc0 hc1
        go_wp2_with fail
        refine (Il.sameInts (Sd.rowF i f) _ v5 _ _ w5 (by rw [Sd.rowF_len]; exact HOX.out) (by rw [Sd.rowF_len]; exact HO5.out) (by rw [Sd.rowF_len]; omega)).mono ?_
        rintro e w6 ⟨rfl, m, rfl⟩
        have hcp : (w5.drewN m).cell? ⟨gp, 1, none⟩ = some (.int .i64 x1) := by
          show w5.cell? _ = _
          rw [HOP5.out.cellAt 1 (by omega)]; exact HX1.out
        have HBW6 := Lib.hid (Il.below_drewN HBW5.out m)
        have htt : (t == t) = true := by simp
        by_cases h2 : (i : Int) < 2
        · go_wp2
          go_ret
          exact ⟨rfl, HBW6.out⟩
        · have hne : (t != x1) = true := by simpa using HNE.out (by omega)
          go_wp2
          go_ret
          exact ⟨rfl, HBW6.out⟩

/-! ### THE ROW's STEP: WRITTEN OUT: LEAVE IT -/
set_option maxRecDepth 100000 in
theorem lifted (os : Os) (started : os.Started) (H : Type) (enc : TypeId × Value → H) :
    ReturnsInHanded {} Try.checked os 3 .any (Rows.fnShuffledSpec.pre6 enc Try.prog Try.f3 Rows.fnShuffledRow.domain false) (Rows.fnShuffledSpec.post enc Try.prog Try.f3 false true false false) := by
  refine returnsInHanded_of_change (C := Try.checked) own started (by kernel_rfl) Try.func3
    (ChangeSpec.witness6 (enc := enc) (C := Try.checked) false ⟨#[], #[.slice none 0 0], []⟩ 8 (by kernel_rfl) (by kernel_rfl) (by kernel_rfl) (by kernel_rfl)) ?_
  intro W base args ds gs before hval0 hW hcnd _
  have hval : ∀ (j : Nat) t v, Try.f3.params[j]? = some t → args[j]? = some v → Value.okWide Try.prog W .any base t v := hval0
  have hW' := hW
  obtain ⟨p, q, hA0, hV, rfl, hfz, hnd⟩ := hW
  have hA : DataW.TrodAll enc Try.prog W 0 (fun _ => true) true Try.f3.params.toList args.toList ds p := hA0
  rw [Try.params3] at hA hval
  obtain ⟨v0, vs0, d0, ds0, p0, q0, hargs, rfl, rfl, h0, r0⟩ := trodAll_cons hA
  obtain ⟨rfl, rfl, rfl⟩ := trodAll_nil r0
  obtain rfl : args = #[v0] := by cases args; simp_all
  obtain ⟨rfl, rfl⟩ := trodVars_none hV
  obtain ⟨a0, len0, cap0, rfl⟩ := okWide_slice Try.underlying22 (hval 0 22 v0 rfl rfl)
  have k0 := h0
  have lt0 : ∀ x ∈ p0, x.block < W.heap.size := by obtain ⟨m, hm⟩ := k0; exact DataW.trod_lt m _ _ _ hm
  obtain ⟨z0, w0⟩ : ∃ zs, IsRow .u8 W a0 len0 cap0 zs := by
    obtain ⟨fuel, hf⟩ := h0
    rcases open_ints Try.underlying22 Try.underlying5 (by kernel_rfl) hf with ⟨hcs, _⟩ | ⟨x, l, c, zs, hcs, _, hl, hm, hz, _, hcell, hwz⟩
    · simp [Value.cells] at hcs
      obtain ⟨rfl, rfl, rfl⟩ := hcs
      exact ⟨[], .inl ⟨rfl, rfl, rfl, rfl⟩⟩
    · simp [Value.cells] at hcs
      obtain ⟨rfl, rfl, rfl⟩ := hcs
      exact ⟨zs, .inr ⟨_, rfl, hl, hm, by simpa using hz, hcell, hwz⟩⟩
  clear hA0 hval0
  refine (walk a0 len0 cap0 z0 W w0).mono fun e W' ⟨he, bel⟩ => ?_
  subst he
  exact ⟨_, rfl, _, _, _, [], _, [], hW', trodAll_mk1 (shut_bool Try.underlying4 _), (trodAll_cons_mk (Below.trod laidOut (by kernel_rfl) (of_decide_eq_true (by kernel_rfl)) k0 bel lt0) trodAll_mk0), rfl, bel.frame _, fun h => by cases h⟩

theorem over : Rows.fnShuffledRow.holds Try.pinned (OpenSpec.ofChange Rows.fnShuffledSpec) :=
  OpenClaim.holds_of_wide 3 Try.f3 rfl rfl rfl rfl rfl rfl rfl ⟨rfl, rfl, rfl, rfl, rfl⟩ rfl rfl rfl rfl rfl (by kernel_rfl) Try.func3 (by kernel_rfl)
    (of_decide_eq_true (by kernel_rfl)) (by unfold Func.isWrapper; first | (rw [if_pos (by decide +kernel)]; kernel_rfl) | (rw [if_neg (by decide +kernel)]; exact ⟨rfl, rfl⟩))
    (fun os started H enc _ => lifted os started H enc)

/-- ████ THE STATEMENT ████ -/
theorem proved : Rows.FnShuffledSaid := over
#print axioms proved
end Go.Proofs.Ytjgjahbffakgaaa.fnShuffled

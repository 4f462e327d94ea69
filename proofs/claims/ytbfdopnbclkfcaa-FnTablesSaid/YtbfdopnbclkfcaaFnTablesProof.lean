/- Called with any arguments, the law FnTables returns true and each argument reads afterwards as before. No condition. -/
import Derived.Test.YtbfdopnbclkfcaaRows
import Derived.Test.YtbfdopnbclkfcaaBig
import Derived.Test.YtbfdopnbclkfcaaDrawPlaces
import Derived.Test.YtbfdopnbclkfcaaM06b
import Derived.Test.YtbfdopnbclkfcaaS06
import Derived.Test.YtbfdopnbclkfcaaI06d
import Derived.Test.YtbfdopnbclkfcaaTreeLaw
import Derived.WalkKit
import Derived.ProofKit
import Derived.OpenShut
import Derived.ShutString
import Derived.ChangeOld
import Derived.Below
namespace Go.Proofs.Ytbfdopnbclkfcaa.fnTables
open Go.ChangeShapes Go.WideShapes Go.ChangeAt Go.RowKit
open Go.ChangeMaps (open_string shut_string)
set_option linter.unusedVariables false

theorem own : ownKnob Try.prog.godebug = none := by kernel_rfl
theorem laidOut : laidOutB Try.prog = true := by kernel_rfl

/-- WHAT THE WALK IS TOLD OF A SLICE OF INTEGERS THAT CAME IN: it is nil; or it leads to a row of 'cap' cells, the numbers 'zs' (the first 'len' are its elements, the rest its spare room), each fitting its kind. -/
def IsRow (k : IntKind) (w : World) (a : Option Addr) (len cap : Nat) (zs : List Int) : Prop :=
  (a = none ∧ len = 0 ∧ cap = 0 ∧ zs = []) ∨
  ∃ x, a = some x ∧ len ≤ cap ∧ cap ≤ maxLen ∧ zs.length = cap ∧ (∀ i, i < zs.length → w.cell? (x.add i) = some (.int k (zs.getD i 0))) ∧ ∀ n ∈ zs, (Lit.int k n).wf = true

/-! ### STEP 1: THE WALK: the Go text returns true, AND WRITES NOTHING THAT WAS THERE: 'Below w.heap.size w w'' (Derived/Below.lean: '.refl', '.alloc', '.drew', '.setCell' at a new block, '.trans'). Open each 'IsRow' by 'rcases' AHEAD of 'go_enter'; part every test ahead of the walk. -/
set_option maxRecDepth 100000 in
theorem walk (a0 : Option Addr) (len0 cap0 : Nat) (z0 : List Int) (w : World) (w0 : IsRow .u8 w a0 len0 cap0 z0) :
    Calls Try.prog 3 #[.slice a0 len0 cap0] w fun e w' => e = .returned (.bool true) ∧ Below w.heap.size w w' := by
  by_cases hbig : (1048576 : Int) < len0
  · go_enter Try.func3, Try.ntmps3
    go_wp2_with (go_at_call 10; refine (Dr.bigYes hbig).mono ?_; rintro e w' ⟨rfl, rfl⟩)
    go_ret
    exact ⟨rfl, Below.refl _ _⟩
  · have HR : Hid (Dr.IsRow .u8 w a0 len0 cap0 z0) := w0
    clear w0
    have hlen : (len0 : Int) ≤ 1048576 := by omega
    go_enter Try.func3, Try.ntmps3
    go_wp2_with fail
    refine (Dr.bigNo hlen).mono ?_
    rintro e w' ⟨rfl, rfl⟩
    go_wp2_with fail
    refine (Dr.drawPlaces HR.out (by omega)).mono ?_
    rintro e w1 ⟨v, l, hl, hx, rfl, ho, hb1⟩
    have HB_w1 := Lib.hid hb1
    obtain ⟨gp, cp, rfl, hgp, hgp1⟩ := Il.own_form ho (by omega)
    obtain ⟨p0, p1, p2, hp0, hp1, hp2, hq0, hq1, hq2⟩ : ∃ p0 p1 p2 : Int, w1.cell? ⟨gp, 0, none⟩ = some (.int .i64 p0) ∧ w1.cell? ⟨gp, 1, none⟩ = some (.int .i64 p1) ∧ w1.cell? ⟨gp, 2, none⟩ = some (.int .i64 p2) ∧ (0 ≤ p0 ∧ p0 < 10000) ∧ (0 ≤ p1 ∧ p1 < 10000) ∧ (0 ≤ p2 ∧ p2 < 10000) := by
      have h0 := ho.cellAt 0 (by omega)
      have h1 := ho.cellAt 1 (by omega)
      have h2 := ho.cellAt 2 (by omega)
      rw [Il.ints_at (by omega)] at h0 h1 h2
      exact ⟨_, _, _, h0, h1, h2, hx _ (List.getElem_mem _), hx _ (List.getElem_mem _), hx _ (List.getElem_mem _)⟩
    obtain ⟨n, hn, hn2, hn9⟩ : ∃ n : Nat, 2 + p0 % 8 = (n : Int) ∧ 2 ≤ n ∧ n ≤ 9 := ⟨(2 + p0 % 8).toNat, by omega, by omega, by omega⟩
    obtain ⟨a, ha, han⟩ : ∃ a : Nat, p1 % (n : Int) = (a : Int) ∧ a < n := by
      have h1 := Int.emod_nonneg p1 (show (n : Int) ≠ 0 by omega)
      have h2 := Int.emod_lt_of_pos p1 (show (0 : Int) < n by omega)
      exact ⟨(p1 % (n : Int)).toNat, by omega, by omega⟩
    obtain ⟨b, hb, hbn⟩ : ∃ b : Nat, p2 % (n : Int) = (b : Int) ∧ b < n := by
      have h1 := Int.emod_nonneg p2 (show (n : Int) ≠ 0 by omega)
      have h2 := Int.emod_lt_of_pos p2 (show (0 : Int) < n by omega)
      exact ⟨(p2 % (n : Int)).toNat, by omega, by omega⟩
    have HN := Lib.hid hn
    have HA := Lib.hid ha
    have HB := Lib.hid hb
    clear hn ha hb ho hx hl hb1
    go_wp2_with fail
    rw [HN.out]
    have HNEW := Lib.hid (Tr.tab_new hn2 hn9)
    refine (Tr.impl_TableNew (n : Int) w1 (by unfold Tr.okI; omega)).mono ?_
    rintro e w2 ⟨us, rfl, hown, hb2⟩
    rw [HNEW.out] at hown
    rw [HNEW.out]
    have hsh := hown
    obtain ⟨bs, hsh, _⟩ := hsh
    obtain ⟨A1, n1, c1, rfl⟩ := Tr.sinv_Table hsh
    have HB_w2 := Lib.hid hb2
    have HO2 := Lib.hid hown
    have hc0 : w2.cell? ⟨gp, 0, none⟩ = some (.int .i64 p0) := Tr.cell_below HB_w2.out hp0
    have hc1 : w2.cell? ⟨gp, 1, none⟩ = some (.int .i64 p1) := Tr.cell_below HB_w2.out hp1
    have hc2 : w2.cell? ⟨gp, 2, none⟩ = some (.int .i64 p2) := Tr.cell_below HB_w2.out hp2
    have hn0 : ((n : Int) == 0) = false := by simp; omega
    have hs21 := HB_w2.out.size
    clear hsh hown hb2
    obtain ⟨B, hs_B⟩ : ∃ B, w2.heap.size = B := ⟨_, rfl⟩
    have hzo_ := hs_B
    have hx_ : (w2.alloc (.cells #[.slice A1 n1 c1] 28)).heap[B]? = some (.cells #[.slice A1 n1 c1] 28 (0, 0)) := by rw [← hzo_]; exact heap_alloc_new w2 _
    have hb_ : Below w2.heap.size w2 (w2.alloc (.cells #[.slice A1 n1 c1] 28)) := (Below.refl _ _).alloc (Nat.le_refl _) _
    have hz_ : (w2.alloc (.cells #[.slice A1 n1 c1] 28)).heap.size = B + 1 := by simp [hzo_]
    obtain ⟨w3, hw_⟩ : ∃ z, (w2.alloc (.cells #[.slice A1 n1 c1] 28)) = z := ⟨_, rfl⟩
    rw [hw_] at hx_ hb_ hz_
    have HX_w3 := Lib.hid hx_
    have HB_w3 := Lib.hid hb_
    have HW_w3 := Lib.hid hw_
    have hz_w3 := Lib.hid hz_
    clear hx_ hb_ hw_ hz_ hzo_
    have hgB : gp < B := by omega
    have hBw : w.heap.size ≤ B := by have := (Tr.below_step HB_w1.out HB_w2.out).size; omega
    go_wp2_with fail
    rw [HW_w3.out, HA.out, HB.out]
    have HS1 := Lib.hid (Tr.tab_set1 han)
    have hsz : ∀ t : Tr.GTable, t.Entries.length = n → (Tr.eTable t).sz ≤ 1048576 := fun t h => by rw [Tr.sz_Table_len, h]; omega
    have HSZ := Lib.hid hsz
    clear hsz hn0 hc0 hc1 hc2
    refine (Tr.impl_SetPage (Tr.tab0 n) _ (a : Int) ⟨1, 3⟩ w3 (HO2.out.rd.below HB_w3.out) (HSZ.out _ Tr.tab_sz0) (by unfold Tr.okI; omega)).mono ?_
    rintro e w4 ⟨us4, rfl, hown4, hb4⟩
    rw [HS1.out] at hown4
    rw [HS1.out]
    have hsh4 := hown4
    obtain ⟨bs4, hsh4, _⟩ := hsh4
    obtain ⟨A2, n2, c2, rfl⟩ := Tr.sinv_Table hsh4
    have HB_w4 := Lib.hid hb4
    have hB3 := lt_of_block HX_w3.out
    have hx4 := ((HB_w4.out).block B hB3).trans HX_w3.out
    have hd0 : w4.cell? ⟨B, 0, none⟩ = some (.slice A1 n1 c1) := Tr.cell_of_block hx4 0
    have hd1 := Tr.free_of_block hx4 0
    have HX5 := Lib.hid (Tr.block_set hx4 0 (.slice A2 n2 c2))
    have HO5 := Lib.hid (hown4.setCell (p := ⟨B, 0, none⟩) hB3 (.slice A2 n2 c2)).rd
    have HB5 := Lib.hid ((Tr.below_step (Tr.below_step (Tr.below_step HB_w1.out HB_w2.out) HB_w3.out) HB_w4.out).setCell (p := ⟨B, 0, none⟩) hBw (.slice A2 n2 c2))
    obtain ⟨w5, hw5⟩ : ∃ w5, w4.setCell ⟨B, 0, none⟩ (.slice A2 n2 c2) = w5 := ⟨_, rfl⟩
    rw [hw5] at HX5 HO5 HB5
    have HW5 := Lib.hid hw5
    have hB5 := lt_of_block HX5.out
    clear hsh4 hown4 hb4 hx4 hw5
    go_wp2_with fail
    rw [HW5.out]
    have HS2 := Lib.hid (Tr.tab_set2 (a := a) hbn)
    refine (Tr.impl_SetPage (Tr.tab1 n a) _ (b : Int) ⟨2, 3⟩ w5 HO5.out (HSZ.out _ Tr.tab_sz1) (by unfold Tr.okI; omega)).mono ?_
    rintro e w6 ⟨us6, rfl, hown6, hb6⟩
    rw [HS2.out] at hown6
    rw [HS2.out]
    have hsh6 := hown6
    obtain ⟨bs6, hsh6, _⟩ := hsh6
    obtain ⟨A3, n3, c3, rfl⟩ := Tr.sinv_Table hsh6
    have HB_w6 := Lib.hid hb6
    have hx6 := ((HB_w6.out).block B hB5).trans HX5.out
    have he0 : w6.cell? ⟨B, 0, none⟩ = some (.slice A2 n2 c2) := Tr.cell_of_block hx6 0
    have he1 := Tr.free_of_block hx6 0
    have HX7 := Lib.hid (Tr.block_set hx6 0 (.slice A3 n3 c3))
    have HO7 := Lib.hid (hown6.setCell (p := ⟨B, 0, none⟩) hB5 (.slice A3 n3 c3)).rd
    have HB7 := Lib.hid ((Tr.below_step HB5.out HB_w6.out).setCell (p := ⟨B, 0, none⟩) hBw (.slice A3 n3 c3))
    obtain ⟨w7, hw7⟩ : ∃ w7, w6.setCell ⟨B, 0, none⟩ (.slice A3 n3 c3) = w7 := ⟨_, rfl⟩
    rw [hw7] at HX7 HO7 HB7
    have HW7 := Lib.hid hw7
    have HALL := Lib.hid (Tr.tab_all hn2 hn9 han hbn)
    have HS := Lib.hid (HSZ.out _ (Tr.tab_sz2 (n := n) (a := a) (b := b)))
    have hk7 : w7.cell? ⟨B, 0, none⟩ = some (.slice A3 n3 c3) := Tr.cell_of_block HX7.out 0
    clear hsh6 hown6 hb6 hx6 hw7
    go_wp2_with fail
    rw [HW7.out]
    refine (Tr.impl_PagesOn (Tr.tab2 n a b) _ 3 w7 HO7.out HS.out (by unfold Tr.okI; omega)).mono ?_
    rintro e w8 ⟨us8, rfl, hown8, hb8⟩
    obtain ⟨bs8, hsh8, _⟩ := hown8
    obtain ⟨A4, n4, c4, rfl⟩ := Tr.own_slice1 hsh8
    have HB_w8 := Lib.hid hb8
    have hn4 := (Tr.own_cells hsh8 (Tr.len_map (E := Tr.eI) (k := 1) (fun _ => rfl))).1
    rw [List.length_map] at hn4
    simp only [List.headD_cons]
    have hk8 : w8.cell? ⟨B, 0, none⟩ = some (.slice A3 n3 c3) := Tr.cell_at HB_w8.out HX7.out 0
    clear hsh8 hb8
    obtain ⟨M, hM, hM1, hM2⟩ : ∃ M : Nat, n4 = M ∧ Tr.pMappedPages (Tr.tab2 n a b) = (M : Int) ∧ M = (if a = b then 1 else 2) := by
      obtain ⟨h1, h2, _⟩ := HALL.out
      by_cases hab : a = b
      · rw [if_pos hab] at h1 h2 ⊢; exact ⟨1, by rw [hn4, h1], h2, rfl⟩
      · rw [if_neg hab] at h1 h2 ⊢; exact ⟨2, by rw [hn4, h1], h2, rfl⟩
    subst hM
    have HM1 := Lib.hid hM1
    have HC1 : Hid (∀ W, Below w7.heap.size w7 W → Calls Try.prog 15 #[.agg #[.slice A3 n3 c3]] W (Tr.RetP (.int .i64 (n4 : Int)) W)) := fun W hb => by
      have h := Tr.impl_MappedPages (Tr.tab2 n a b) _ W (HO7.out.below hb) HS.out
      rw [HM1.out] at h
      exact h
    have HC2 : Hid (∀ W, Below w7.heap.size w7 W → Calls Try.prog 16 #[.agg #[.slice A3 n3 c3], .int .i64 b] W (Tr.RetP (.agg #[.int .i64 2, .int .i64 3]) W)) := fun W hb => by
      have h := Tr.impl_PageEntry (Tr.tab2 n a b) _ (b : Int) W (HO7.out.below hb) HS.out (by unfold Tr.okI; omega)
      rw [HALL.out.2.2.1, HALL.out.2.2.2.1] at h
      exact h
    have HC3 : Hid (∀ W, Below w7.heap.size w7 W → Calls Try.prog 17 #[.agg #[.slice A3 n3 c3], .int .i64 4] W (Tr.RetP (.bool true) W)) := fun W hb => by
      have h := Tr.impl_TableOk (Tr.tab2 n a b) _ 4 W (HO7.out.below hb) HS.out (by unfold Tr.okI; omega)
      rw [HALL.out.2.2.2.2.1] at h
      exact h
    have HC4 : Hid (∀ W, Below w7.heap.size w7 W → Calls Try.prog 17 #[.agg #[.slice A3 n3 c3], .int .i64 3] W (Tr.RetP (.bool false) W)) := fun W hb => by
      have h := Tr.impl_TableOk (Tr.tab2 n a b) _ 3 W (HO7.out.below hb) HS.out (by unfold Tr.okI; omega)
      rw [HALL.out.2.2.2.2.2] at h
      exact h
    have hn42 : n4 ≤ 2 := by rw [hM2]; split <;> omega
    have HM2 := Lib.hid hM2
    clear hn4 hM1 hM2
    by_cases hab : a = b
    · obtain rfl : n4 = 1 := by rw [HM2.out, if_pos hab]
      have heq : ((a : Int) == (b : Int)) = true := by simp [hab]
      clear hab
      go_wp2_with fail
      refine (HC1.out w8 HB_w8.out).mono ?_
      rintro e w9 ⟨rfl, hb9⟩
      have HB_w9 := Lib.hid hb9
      have hk9 : w9.cell? ⟨B, 0, none⟩ = some (.slice A3 n3 c3) := Tr.cell_at (Tr.below_step HB_w8.out HB_w9.out) HX7.out 0
      clear hb9
      go_wp2_with fail
      refine (HC2.out w9 (Tr.below_step HB_w8.out HB_w9.out)).mono ?_
      rintro e w10 ⟨rfl, hb10⟩
      have HB_w10 := Lib.hid hb10
      have hk10 : w10.cell? ⟨B, 0, none⟩ = some (.slice A3 n3 c3) := Tr.cell_at (Tr.below_step (Tr.below_step HB_w8.out HB_w9.out) HB_w10.out) HX7.out 0
      clear hb10
      go_wp2_with fail
      refine (HC3.out w10 (Tr.below_step (Tr.below_step HB_w8.out HB_w9.out) HB_w10.out)).mono ?_
      rintro e w11 ⟨rfl, hb11⟩
      have HB_w11 := Lib.hid hb11
      have hk11 : w11.cell? ⟨B, 0, none⟩ = some (.slice A3 n3 c3) := Tr.cell_at (Tr.below_step (Tr.below_step (Tr.below_step HB_w8.out HB_w9.out) HB_w10.out) HB_w11.out) HX7.out 0
      clear hb11
      go_wp2_with fail
      refine (HC4.out w11 (Tr.below_step (Tr.below_step (Tr.below_step HB_w8.out HB_w9.out) HB_w10.out) HB_w11.out)).mono ?_
      rintro e w12 ⟨rfl, hb12⟩
      have HB_w12 := Lib.hid hb12
      clear hb12
      go_wp2
      go_ret
      exact ⟨rfl, Tr.below_step HB7.out (Tr.below_step (Tr.below_step (Tr.below_step (Tr.below_step HB_w8.out HB_w9.out) HB_w10.out) HB_w11.out) HB_w12.out)⟩
    · obtain rfl : n4 = 2 := by rw [HM2.out, if_neg hab]
      have heq : ((a : Int) == (b : Int)) = false := by simp; omega
      clear hab
      go_wp2_with fail
      refine (HC1.out w8 HB_w8.out).mono ?_
      rintro e w9 ⟨rfl, hb9⟩
      have HB_w9 := Lib.hid hb9
      have hk9 : w9.cell? ⟨B, 0, none⟩ = some (.slice A3 n3 c3) := Tr.cell_at (Tr.below_step HB_w8.out HB_w9.out) HX7.out 0
      clear hb9
      go_wp2_with fail
      refine (HC2.out w9 (Tr.below_step HB_w8.out HB_w9.out)).mono ?_
      rintro e w10 ⟨rfl, hb10⟩
      have HB_w10 := Lib.hid hb10
      have hk10 : w10.cell? ⟨B, 0, none⟩ = some (.slice A3 n3 c3) := Tr.cell_at (Tr.below_step (Tr.below_step HB_w8.out HB_w9.out) HB_w10.out) HX7.out 0
      clear hb10
      go_wp2_with fail
      refine (HC3.out w10 (Tr.below_step (Tr.below_step HB_w8.out HB_w9.out) HB_w10.out)).mono ?_
      rintro e w11 ⟨rfl, hb11⟩
      have HB_w11 := Lib.hid hb11
      have hk11 : w11.cell? ⟨B, 0, none⟩ = some (.slice A3 n3 c3) := Tr.cell_at (Tr.below_step (Tr.below_step (Tr.below_step HB_w8.out HB_w9.out) HB_w10.out) HB_w11.out) HX7.out 0
      clear hb11
      go_wp2_with fail
      refine (HC4.out w11 (Tr.below_step (Tr.below_step (Tr.below_step HB_w8.out HB_w9.out) HB_w10.out) HB_w11.out)).mono ?_
      rintro e w12 ⟨rfl, hb12⟩
      have HB_w12 := Lib.hid hb12
      clear hb12
      go_wp2
      go_ret
      exact ⟨rfl, Tr.below_step HB7.out (Tr.below_step (Tr.below_step (Tr.below_step (Tr.below_step HB_w8.out HB_w9.out) HB_w10.out) HB_w11.out) HB_w12.out)⟩

/-! ### THE ROW's STEP: WRITTEN OUT: LEAVE IT -/
set_option maxRecDepth 100000 in
theorem lifted (os : Os) (started : os.Started) (H : Type) (enc : TypeId × Value → H) :
    ReturnsInHanded {} Try.checked os 3 .any (Rows.fnTablesSpec.pre6 enc Try.prog Try.f3 Rows.fnTablesRow.domain false) (Rows.fnTablesSpec.post enc Try.prog Try.f3 false true false false) := by
  refine returnsInHanded_of_change (C := Try.checked) own started (by kernel_rfl) Try.func3
    (ChangeSpec.witness6 (enc := enc) (C := Try.checked) false ⟨#[], #[.slice none 0 0], []⟩ 8 (by kernel_rfl) (by kernel_rfl) (by kernel_rfl) (by kernel_rfl)) ?_
  intro W base args ds gs before hval0 hW hcnd _
  have hval : ∀ (j : Nat) t v, Try.f3.params[j]? = some t → args[j]? = some v → Value.okWide Try.prog W .any base t v := hval0
  have hW' := hW
  obtain ⟨p, q, hA0, hV, rfl, hfz, hnd⟩ := hW
  have hA : DataW.TrodAll enc Try.prog W 0 (fun _ => true) true Try.f3.params.toList args.toList ds p := hA0
  rw [Try.params3] at hA hval
  obtain ⟨v0, vs0, d0, ds0, p0, q0, hargs, rfl, rfl, h0, r0⟩ := trodAll_cons hA
  obtain ⟨rfl, rfl, rfl⟩ := trodAll_nil r0
  obtain rfl : args = #[v0] := by cases args; simp_all
  obtain ⟨rfl, rfl⟩ := trodVars_none hV
  obtain ⟨a0, len0, cap0, rfl⟩ := okWide_slice Try.underlying22 (hval 0 22 v0 rfl rfl)
  have k0 := h0
  have lt0 : ∀ x ∈ p0, x.block < W.heap.size := by obtain ⟨m, hm⟩ := k0; exact DataW.trod_lt m _ _ _ hm
  obtain ⟨z0, w0⟩ : ∃ zs, IsRow .u8 W a0 len0 cap0 zs := by
    obtain ⟨fuel, hf⟩ := h0
    rcases open_ints Try.underlying22 Try.underlying5 (by kernel_rfl) hf with ⟨hcs, _⟩ | ⟨x, l, c, zs, hcs, _, hl, hm, hz, _, hcell, hwz⟩
    · simp [Value.cells] at hcs
      obtain ⟨rfl, rfl, rfl⟩ := hcs
      exact ⟨[], .inl ⟨rfl, rfl, rfl, rfl⟩⟩
    · simp [Value.cells] at hcs
      obtain ⟨rfl, rfl, rfl⟩ := hcs
      exact ⟨zs, .inr ⟨_, rfl, hl, hm, by simpa using hz, hcell, hwz⟩⟩
  clear hA0 hval0
  refine (walk a0 len0 cap0 z0 W w0).mono fun e W' ⟨he, bel⟩ => ?_
  subst he
  exact ⟨_, rfl, _, _, _, [], _, [], hW', trodAll_mk1 (shut_bool Try.underlying4 _), (trodAll_cons_mk (Below.trod laidOut (by kernel_rfl) (of_decide_eq_true (by kernel_rfl)) k0 bel lt0) trodAll_mk0), rfl, bel.frame _, fun h => by cases h⟩

theorem over : Rows.fnTablesRow.holds Try.pinned (OpenSpec.ofChange Rows.fnTablesSpec) :=
  OpenClaim.holds_of_wide 3 Try.f3 rfl rfl rfl rfl rfl rfl rfl ⟨rfl, rfl, rfl, rfl, rfl⟩ rfl rfl rfl rfl rfl (by kernel_rfl) Try.func3 (by kernel_rfl)
    (of_decide_eq_true (by kernel_rfl)) (by unfold Func.isWrapper; first | (rw [if_pos (by decide +kernel)]; kernel_rfl) | (rw [if_neg (by decide +kernel)]; exact ⟨rfl, rfl⟩))
    (fun os started H enc _ => lifted os started H enc)

/-- ████ THE STATEMENT ████ -/
theorem proved : Rows.FnTablesSaid := over
#print axioms proved
end Go.Proofs.Ytbfdopnbclkfcaa.fnTables

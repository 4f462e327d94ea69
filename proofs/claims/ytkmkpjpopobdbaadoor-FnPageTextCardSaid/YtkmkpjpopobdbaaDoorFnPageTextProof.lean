/- Called with any arguments, the law FnPageText returns true and each argument reads afterwards as before; the listed package-level variables hold what the program's text lays. -/
import Derived.Test.YtkmkpjpopobdbaaDoorRows
import Derived.Test.YtkmkpjpopobdbaaDoorBig
import Derived.Test.YtkmkpjpopobdbaaDoorDrawPlaces
import Derived.Test.YtkmkpjpopobdbaaDoorDrawMachine
import Derived.Test.YtkmkpjpopobdbaaDoorEI07c
import Derived.Test.YtkmkpjpopobdbaaDoorTreeLaw
import Derived.Test.YtkmkpjpopobdbaaDoorCards
import Derived.Test.YtkmkpjpopobdbaaDoorTie
import Derived.Test.YtkmkpjpopobdbaaDoorLaid
import Derived.Deep.DeepHandedRow
import Derived.Deep.DeepWitnessRowRef
import Derived.Lib.LaidTab
import Derived.ChangeOld
import Derived.Below
import Derived.OpenVars
import Derived.WalkKit
import Derived.ProofKit
import Derived.OpenShut
import Derived.ShutString
namespace Go.Proofs.YtkmkpjpopobdbaaDoor.fnPageText
open Go.ChangeShapes Go.WideShapes Go.ChangeAt Go.RowKit
open Go.ChangeMaps (open_string shut_string)
set_option linter.unusedVariables false

theorem own : ownKnob Tryd.prog.godebug = none := by kernel_rfl
theorem laidOut : laidOutB Tryd.prog = true := by kernel_rfl

/-- WHAT THE WALK IS TOLD OF A SLICE OF INTEGERS THAT CAME IN: it is nil; or it leads to a row of 'cap' cells, the numbers 'zs' (the first 'len' are its elements, the rest its spare room), each fitting its kind. -/
def IsRow (k : IntKind) (w : World) (a : Option Addr) (len cap : Nat) (zs : List Int) : Prop :=
  (a = none ∧ len = 0 ∧ cap = 0 ∧ zs = []) ∨
  ∃ x, a = some x ∧ len ≤ cap ∧ cap ≤ maxLen ∧ zs.length = cap ∧ (∀ i, i < zs.length → w.cell? (x.add i) = some (.int k (zs.getD i 0))) ∧ ∀ n ∈ zs, (Lit.int k n).wf = true

/-! ### STEP 1: THE WALK: the Go text returns true, AND WRITES NOTHING THAT WAS THERE: 'Below w.heap.size w w'' (Derived/Below.lean: '.refl', '.alloc', '.drew', '.setCell' at a new block, '.trans'). Open each 'IsRow' by 'rcases' AHEAD of 'go_enter'; part every test ahead of the walk. -/
set_option maxHeartbeats 1000000 in
set_option maxRecDepth 100000 in
theorem walk (a0 : Option Addr) (len0 cap0 : Nat) (z0 : List Int) (w : World) (w0 : IsRow .u8 w a0 len0 cap0 z0) (hT : Laid.LErrPageErrWriteErrValue w) :
    Calls Tryd.prog 4 #[.slice a0 len0 cap0] w fun e w' => e = .returned (.bool true) ∧ Below w.heap.size w w' := by
  have HT := Lib.hid hT.sents
  clear hT
  by_cases hbig : (1048576 : Int) < len0
  · go_enter Tryd.func4, Tryd.ntmps4
    go_wp2_with (go_at_call 8; refine (Dr.bigYes hbig).mono ?_; rintro e w' ⟨rfl, rfl⟩)
    go_ret
    exact ⟨rfl, Below.refl _ _⟩
  · have HR : Hid (Dr.IsRow .u8 w a0 len0 cap0 z0) := w0
    clear w0
    have hlen : (len0 : Int) ≤ 1048576 := by omega
    go_enter Tryd.func4, Tryd.ntmps4
    go_wp2_with fail
    refine (Dr.bigNo hlen).mono ?_
    rintro e w' ⟨rfl, rfl⟩
    go_wp2_with fail
    refine (Tr.drawMachine HR.out (by omega)).mono ?_
    rintro e w1 ⟨m, us, hok, hL, rfl, hown, hb1⟩
    have hsh := hown
    obtain ⟨bs, hsh, _⟩ := hsh
    obtain ⟨A, n, cap, A2, n2, cap2, A3, n3, cap3, rfl⟩ := Tr.sinv_Machine hsh
    have hn3 := (Tr.owned_lens3 hown).2.2
    rw [← hn3] at hL
    have HOK := Lib.hid hok
    have HSZ := Lib.hid (Tr.okM_sz hok)
    have HRD := Lib.hid hown.rd
    have HB_w1 := Lib.hid hb1
    clear hsh hown hb1 hok hn3
    obtain ⟨B, hs_B⟩ : ∃ B, w1.heap.size = B := ⟨_, rfl⟩
    have hzo_ := hs_B
    have hx_ : (w1.alloc (.cells #[.slice A n cap, .slice A2 n2 cap2, .slice A3 n3 cap3] 32)).heap[B]? = some (.cells #[.slice A n cap, .slice A2 n2 cap2, .slice A3 n3 cap3] 32 (0, 0)) := by rw [← hzo_]; exact heap_alloc_new w1 _
    have hb_ : Below w1.heap.size w1 (w1.alloc (.cells #[.slice A n cap, .slice A2 n2 cap2, .slice A3 n3 cap3] 32)) := (Below.refl _ _).alloc (Nat.le_refl _) _
    have hz_ : (w1.alloc (.cells #[.slice A n cap, .slice A2 n2 cap2, .slice A3 n3 cap3] 32)).heap.size = B + 1 := by simp [hzo_]
    obtain ⟨w2, hw_⟩ : ∃ z, (w1.alloc (.cells #[.slice A n cap, .slice A2 n2 cap2, .slice A3 n3 cap3] 32)) = z := ⟨_, rfl⟩
    rw [hw_] at hx_ hb_ hz_
    have HX_w2 := Lib.hid hx_
    have HB_w2 := Lib.hid hb_
    have HW_w2 := Lib.hid hw_
    have hz_w2 := Lib.hid hz_
    clear hx_ hb_ hw_ hz_ hzo_
    go_wp2_with fail
    rw [HW_w2.out]
    refine (Dr.drawPlaces (HR.out.of_block (fun x hx hc => ((Tr.below_step HB_w1.out HB_w2.out)).block x.block (HR.out.lt x hx hc))) (by omega)).mono ?_
    rintro e w3 ⟨v, l, hl, hx, rfl, ho, hb3⟩
    have HB_w3 := Lib.hid hb3
    obtain ⟨gp, cp, rfl, hgp, hgp3⟩ := Il.own_form ho (by omega)
    obtain ⟨p0, p1, hp0, hp1, hq0, hq1⟩ : ∃ p0 p1 : Int, w3.cell? ⟨gp, 0, none⟩ = some (.int .i64 p0) ∧ w3.cell? ⟨gp, 1, none⟩ = some (.int .i64 p1) ∧ (0 ≤ p0 ∧ p0 < 10000) ∧ (0 ≤ p1 ∧ p1 < 10000) := by
      have h0 := ho.cellAt 0 (by omega)
      have h1 := ho.cellAt 1 (by omega)
      rw [Il.ints_at (by omega)] at h0 h1
      exact ⟨_, _, h0, h1, hx _ (List.getElem_mem _), hx _ (List.getElem_mem _)⟩
    obtain ⟨pg, hpg, hpgl⟩ : ∃ pg : Nat, p0 % (n3 : Int) = (pg : Int) ∧ pg < n3 := by
      have h1 := Int.emod_nonneg p0 (show (n3 : Int) ≠ 0 by omega)
      have h2 := Int.emod_lt_of_pos p0 (show (0 : Int) < n3 by omega)
      exact ⟨(p0 % (n3 : Int)).toNat, by omega, by omega⟩
    obtain ⟨kk, hkk, hkk16⟩ : ∃ kk : Nat, p1 % 16 = (kk : Int) ∧ kk < 16 := ⟨(p1 % 16).toNat, by omega, by omega⟩
    have HP0 := Lib.hid hp0
    have HP1 := Lib.hid hp1
    have HKK := Lib.hid hkk
    have hn30 : ((n3 : Int) == 0) = false := by simp; omega
    have hn31 : ¬ n3 = 0 := by omega
    have hmod : p0.tmod (n3 : Int) = (pg : Int) := by rw [Int.tmod_eq_emod_of_nonneg hq0.1]; exact hpg
    have hS3 : w3.drew.cell? ⟨gp, 0, none⟩ = some (.int .i64 p0) ∧ w3.drew.cell? ⟨B, 2, none⟩ = some (.slice A3 n3 cap3) := ⟨hp0, Tr.cell_at HB_w3.out HX_w2.out 2⟩
    clear ho hx hl hb3 hp0 hp1 hkk hpg
    go_wp2_with fail
    go_region_held3 (fun W => W.cell? ⟨gp, 0, none⟩ = some (.int .i64 p0) ∧ W.cell? ⟨B, 2, none⟩ = some (.slice A3 n3 cap3)) (exact hS3) (fail)
    obtain ⟨w4, hw4⟩ : ∃ w4, w3.drew = w4 := ⟨_, rfl⟩
    have HB_w4 : Hid (Below w3.heap.size w3 w4) := by show Below _ _ _; rw [← hw4]; exact (Below.refl _ _).drew
    have HW4 := Lib.hid hw4
    have hk0 : w4.cell? ⟨B, 0, none⟩ = some (.slice A n cap) := Tr.cell_at (Tr.below_step HB_w3.out HB_w4.out) HX_w2.out 0
    have hk1 : w4.cell? ⟨B, 1, none⟩ = some (.slice A2 n2 cap2) := Tr.cell_at (Tr.below_step HB_w3.out HB_w4.out) HX_w2.out 1
    have hk2 : w4.cell? ⟨B, 2, none⟩ = some (.slice A3 n3 cap3) := Tr.cell_at (Tr.below_step HB_w3.out HB_w4.out) HX_w2.out 2
    have hsz : (Tr.eMachine m).sz ≤ 1048576 := by have := HSZ.out; omega
    have HZ := Lib.hid hsz
    clear hw4 hS3 hmod hn30 hn31 hsz
    rw [HW4.out]
    go_wp2_with fail
    refine (Tr.impl_PageText m _ _ _ (pg : Int) w4 (HRD.out.below (Tr.below_step (Tr.below_step HB_w2.out HB_w3.out) HB_w4.out)) HZ.out (by unfold Tr.okI; omega) (HT.out.below (Tr.below_step (Tr.below_step (Tr.below_step HB_w1.out HB_w2.out) HB_w3.out) HB_w4.out)).head).mono ?_
    rintro e w5 ⟨us5, rfl, ho5, hb5⟩
    obtain ⟨bs5, hs5, _⟩ := ho5
    obtain ⟨A5, n5, cap5, rfl⟩ := Tr.own_slice1 hs5
    simp only [List.headD_cons]
    have HB_w5 := Lib.hid hb5
    have HO5 := Lib.hid hs5
    have hd : Below w5.heap.size w5 w5.drew := (Below.refl _ _).drew
    have HS : Hid (∀ W, Below w5.heap.size w5 W → (W.cell? ⟨B, 0, none⟩ = some (.slice A n cap) ∧ W.cell? ⟨B, 1, none⟩ = some (.slice A2 n2 cap2) ∧ W.cell? ⟨B, 2, none⟩ = some (.slice A3 n3 cap3)) ∧ W.cell? ⟨gp, 1, none⟩ = some (.int .i64 p1)) := fun W hb =>
      ⟨⟨Tr.cell_at (Tr.below_step (Tr.below_step (Tr.below_step HB_w3.out HB_w4.out) HB_w5.out) hb) HX_w2.out 0, Tr.cell_at (Tr.below_step (Tr.below_step (Tr.below_step HB_w3.out HB_w4.out) HB_w5.out) hb) HX_w2.out 1, Tr.cell_at (Tr.below_step (Tr.below_step (Tr.below_step HB_w3.out HB_w4.out) HB_w5.out) hb) HX_w2.out 2⟩, Tr.cell_below (Tr.below_step (Tr.below_step HB_w4.out HB_w5.out) hb) HP1.out⟩
    have HCL : Hid (∀ W, Below w5.heap.size w5 W → Calls Tryd.prog 13 #[.agg #[.slice A n cap, .slice A2 n2 cap2, .slice A3 n3 cap3], .int .i64 (16 * (pg : Int) + (kk : Int))] W (Tr.RetP (.tuple #[.int .i64 (Tr.pLoad m (16 * (pg : Int) + (kk : Int))).1, .int .i64 (Tr.pLoad m (16 * (pg : Int) + (kk : Int))).2]) W)) := fun W hb => Tr.impl_Load m _ _ _ (16 * (pg : Int) + (kk : Int)) W (HRD.out.below (Tr.below_step (Tr.below_step (Tr.below_step (Tr.below_step HB_w2.out HB_w3.out) HB_w4.out) HB_w5.out) hb)) HZ.out (by unfold Tr.okI; omega) (HT.out.below (Tr.below_step (Tr.below_step (Tr.below_step (Tr.below_step (Tr.below_step HB_w1.out HB_w2.out) HB_w3.out) HB_w4.out) HB_w5.out) hb))
    have hm1 : IntKind.i64.wrap (16 * (pg : Int)) = 16 * (pg : Int) := by rw [IntKind.wrap_i64]; omega
    have hm2 : p1.tmod 16 = (kk : Int) := by rw [Int.tmod_eq_emod_of_nonneg hq1.1]; exact HKK.out
    have hm3 : IntKind.i64.wrap (16 * (pg : Int) + (kk : Int)) = 16 * (pg : Int) + (kk : Int) := by rw [IntKind.wrap_i64]; omega
    clear hs5 hb5 hk0 hk1 hk2
    go_wp2_with fail
    go_region_held3 (fun W => (W.cell? ⟨B, 0, none⟩ = some (.slice A n cap) ∧ W.cell? ⟨B, 1, none⟩ = some (.slice A2 n2 cap2) ∧ W.cell? ⟨B, 2, none⟩ = some (.slice A3 n3 cap3)) ∧ W.cell? ⟨gp, 1, none⟩ = some (.int .i64 p1)) (exact HS.out _ (by assumption)) ((go_at_call 13; refine (HCL.out _ hd).mono ?_; rintro e6 w6 ⟨rfl, hb6⟩; have hB6 := Tr.below_step hd hb6))
    have HB_w6 := Lib.hid hB6
    have hkk' : p1 % 16 = (kk : Int) := HKK.out
    have hk0 : w6.cell? ⟨B, 0, none⟩ = some (.slice A n cap) := Tr.cell_at (Tr.below_step (Tr.below_step (Tr.below_step HB_w3.out HB_w4.out) HB_w5.out) HB_w6.out) HX_w2.out 0
    have hk1 : w6.cell? ⟨B, 1, none⟩ = some (.slice A2 n2 cap2) := Tr.cell_at (Tr.below_step (Tr.below_step (Tr.below_step HB_w3.out HB_w4.out) HB_w5.out) HB_w6.out) HX_w2.out 1
    have hk2 : w6.cell? ⟨B, 2, none⟩ = some (.slice A3 n3 cap3) := Tr.cell_at (Tr.below_step (Tr.below_step (Tr.below_step HB_w3.out HB_w4.out) HB_w5.out) HB_w6.out) HX_w2.out 2
    have hkp : w6.cell? ⟨gp, 1, none⟩ = some (.int .i64 p1) := Tr.cell_below (Tr.below_step (Tr.below_step HB_w4.out HB_w5.out) HB_w6.out) HP1.out
    clear hm1 hm2 hm3 hd hB6 hb6
    rcases Tr.page_cases HOK.out pg kk hkk16 with ⟨r, hr16, hpt, hld⟩ | ⟨hmz, hpt, hld⟩
    · rw [hpt] at HO5
      rw [hld]
      obtain ⟨A5', n5', cap5', e5, hn5, _, _, hA5⟩ := Tr.read_ints (T := 3) HO5.out
      rw [Value.slice.injEq] at e5
      obtain ⟨rfl, rfl, rfl⟩ := e5
      obtain rfl : n5 = 16 := by omega
      obtain ⟨g5, o5, v5, rfl, hv5, hc5⟩ := hA5 kk (by omega)
      have hv : r.getD kk 0 = v5 := by rw [List.getD_eq_getElem?_getD, hv5]; rfl
      have hc6 : w6.cell? ⟨g5, o5 + kk, none⟩ = some (.int .i64 v5) := Tr.cell_below HB_w6.out hc5
      rw [hv]
      have hkz : (0 : Int) ≤ kk := by omega
      have hkz2 : (kk : Int) < 16 := by omega
      clear hv hv5 hc5 hA5 hn5 hr16 hpt hld
      go_wp2
      go_ret
      exact ⟨rfl, (Tr.below_step (Tr.below_step (Tr.below_step (Tr.below_step (Tr.below_step HB_w1.out HB_w2.out) HB_w3.out) HB_w4.out) HB_w5.out) HB_w6.out)⟩
    · rw [hpt] at HO5
      rw [hld]
      obtain rfl : n5 = 0 := by
        have h := (Tr.own_cells HO5.out (Tr.len_map (E := Tr.eI) (k := 1) (fun _ => rfl))).1
        exact h
      have HMZ := Lib.hid hmz
      obtain ⟨F, hF⟩ : ∃ F, (Tr.pPageEntry m.Table (pg : Int)).Frame = F := ⟨_, rfl⟩
      have hfl : ∀ W : World, (Instr.field 39 (.agg #[.int .i64 0, .int .i64 F]) 0).run Tryd.prog W = .ok (.int .i64 0) W := fun W => by rfl
      have HCE : Hid (∀ W, Below w6.heap.size w6 W → Calls Tryd.prog 12 #[.agg #[.slice A3 n3 cap3], .int .i64 pg] W (Tr.RetP (.agg #[.int .i64 0, .int .i64 F]) W)) := fun W hb => by
        have h := Tr.spec_PageEntry m.Table _ (pg : Int) W ((Tr.rd_machine HRD.out).2.below (Tr.below_step (Tr.below_step (Tr.below_step (Tr.below_step (Tr.below_step HB_w2.out HB_w3.out) HB_w4.out) HB_w5.out) HB_w6.out) hb)) (Tr.sz_machine HZ.out).2.1 (by unfold Tr.okI; omega)
        rw [HMZ.out, hF] at h
        exact h
      have HCO : Hid (∀ W, Below w6.heap.size w6 W → Calls Tryd.prog 15 #[.agg #[.slice A n cap, .slice A2 n2 cap2, .slice A3 n3 cap3]] W (Tr.TrueP W)) := fun W hb => by
        have h := Tr.impl_MachineOk m _ _ _ W (HRD.out.below (Tr.below_step (Tr.below_step (Tr.below_step (Tr.below_step (Tr.below_step HB_w2.out HB_w3.out) HB_w4.out) HB_w5.out) HB_w6.out) hb)) HZ.out
        rw [show Tr.pMachineOk m = true from decide_eq_true HOK.out] at h
        exact h
      clear hmz hpt hld hF
      go_wp2_with fail
      refine (HCE.out w6 (Below.refl _ _)).mono ?_
      rintro e w7 ⟨rfl, hb7⟩
      have HB_w7 := Lib.hid hb7
      have hj0 : w7.cell? ⟨B, 0, none⟩ = some (.slice A n cap) := Tr.cell_at (Tr.below_step (Tr.below_step (Tr.below_step (Tr.below_step HB_w3.out HB_w4.out) HB_w5.out) HB_w6.out) HB_w7.out) HX_w2.out 0
      have hj1 : w7.cell? ⟨B, 1, none⟩ = some (.slice A2 n2 cap2) := Tr.cell_at (Tr.below_step (Tr.below_step (Tr.below_step (Tr.below_step HB_w3.out HB_w4.out) HB_w5.out) HB_w6.out) HB_w7.out) HX_w2.out 1
      have hj2 : w7.cell? ⟨B, 2, none⟩ = some (.slice A3 n3 cap3) := Tr.cell_at (Tr.below_step (Tr.below_step (Tr.below_step (Tr.below_step HB_w3.out HB_w4.out) HB_w5.out) HB_w6.out) HB_w7.out) HX_w2.out 2
      clear hb7
      go_wp2_with fail
      refine (HCO.out w7 HB_w7.out).mono ?_
      rintro e w8 ⟨rfl, hb8⟩
      have HB_w8 := Lib.hid hb8
      clear hb8
      go_wp2
      go_ret
      exact ⟨rfl, (Tr.below_step (Tr.below_step (Tr.below_step (Tr.below_step (Tr.below_step (Tr.below_step (Tr.below_step HB_w1.out HB_w2.out) HB_w3.out) HB_w4.out) HB_w5.out) HB_w6.out) HB_w7.out) HB_w8.out)⟩

set_option maxRecDepth 100000 in
theorem contract (H : Type) (enc : TypeId × Value → H) (W : World) (base : Nat) (args : Array Value) (ds gs : List (DataW H)) (before : List MemPlace)
    (hval0 : ∀ (j : Nat) t v, Tryd.f4.params[j]? = some t → args[j]? = some v → Value.okWide Tryd.prog W .any base t v)
    (hW : DataW.Whole enc Tryd.prog Tryd.f4.params.toList Rows.fnPageTextSpec.vars false W args.toList ds gs before) (hT : Laid.LErrPageErrWriteErrValue W) :
    Calls Tryd.prog 4 args W fun e W' => ∃ v, e = .returned v ∧ Rows.fnPageTextSpec.post enc Tryd.prog Tryd.f4 false true false false W args v W' := by
  have hval : ∀ (j : Nat) t v, Tryd.f4.params[j]? = some t → args[j]? = some v → Value.okWide Tryd.prog W .any base t v := hval0
  have hW' := hW
  obtain ⟨p, q, hA0, hV, rfl, hfz, hnd⟩ := hW
  have hA : DataW.TrodAll enc Tryd.prog W 0 (fun _ => true) true Tryd.f4.params.toList args.toList ds p := hA0
  rw [Tryd.params4] at hA hval
  obtain ⟨v0, vs0, d0, ds0, p0, q0, hargs, rfl, rfl, h0, r0⟩ := trodAll_cons hA
  obtain ⟨rfl, rfl, rfl⟩ := trodAll_nil r0
  obtain rfl : args = #[v0] := by cases args; simp_all
  obtain ⟨g0, g1, g2, rfl⟩ := Laid.vars3 hV
  obtain ⟨a0, len0, cap0, rfl⟩ := okWide_slice Tryd.underlying22 (hval 0 22 v0 rfl rfl)
  have k0 := h0
  have lt0 : ∀ x ∈ p0, x.block < W.heap.size := by obtain ⟨m, hm⟩ := k0; exact DataW.trod_lt m _ _ _ hm
  obtain ⟨z0, w0⟩ : ∃ zs, IsRow .u8 W a0 len0 cap0 zs := by
    obtain ⟨fuel, hf⟩ := h0
    rcases open_ints Tryd.underlying22 Tryd.underlying5 (by kernel_rfl) hf with ⟨hcs, _⟩ | ⟨x, l, c, zs, hcs, _, hl, hm, hz, _, hcell, hwz⟩
    · simp [Value.cells] at hcs
      obtain ⟨rfl, rfl, rfl⟩ := hcs
      exact ⟨[], .inl ⟨rfl, rfl, rfl, rfl⟩⟩
    · simp [Value.cells] at hcs
      obtain ⟨rfl, rfl, rfl⟩ := hcs
      exact ⟨zs, .inr ⟨_, rfl, hl, hm, by simpa using hz, hcell, hwz⟩⟩
  clear hA0 hval0
  refine (walk a0 len0 cap0 z0 W w0 hT).mono fun e W' ⟨he, bel⟩ => ?_
  subst he
  exact ⟨_, rfl, _, _, _, [], _, q, hW', trodAll_mk1 (shut_bool Tryd.underlying4 _), (trodAll_cons_mk (Below.trod laidOut (by kernel_rfl) (of_decide_eq_true (by kernel_rfl)) k0 bel lt0) trodAll_mk0), bel.trodVars Laid.laidOut (by kernel_rfl) hV, bel.frame _, fun h => by cases h⟩

theorem laid_met (os : Os) : laidMet Tryd.prog Rows.fnPageTextRow.laid ((Laid.world os).forCall (fun _ _ => 0) ⟨#[], #[.slice none 0 0], []⟩).memory :=
  laidMet_of_run' 8 (by kernel_rfl) (by kernel_rfl)
theorem witness_row (os : Os) {H : Type} (enc : TypeId × Value → H) :
    (OpenSpec.ofChange Rows.fnPageTextSpec).preRow enc Tryd.prog Tryd.f4 Rows.fnPageTextRow.domain false Rows.fnPageTextRow.laid ((Laid.world os).forCall (fun _ _ => 0) ⟨#[], #[.slice none 0 0], []⟩).memory #[.slice none 0 0] := by
  have hw : (DataW.whole enc Tryd.prog ((Laid.world os).forCall (fun _ _ => 0) ⟨#[], #[.slice none 0 0], []⟩).memory Tryd.f4.params.toList Rows.fnPageTextSpec.vars false (#[.slice none 0 0] : Array Value).toList 8).map (fun x => (x.1, x.2.1)) = some ([.nil], [.held (enc (133, .pointer (some ⟨(World.settled Tryd.prog os).heap.size + 0, 0, none⟩))), .held (enc (133, .pointer (some ⟨(World.settled Tryd.prog os).heap.size + 1, 0, none⟩))), .held (enc (133, .pointer (some ⟨(World.settled Tryd.prog os).heap.size + 2, 0, none⟩)))]) := by kernel_rfl
  obtain ⟨⟨x1, x2, x3⟩, hx, hx1⟩ := Option.map_eq_some_iff.1 hw
  simp only [Prod.mk.injEq] at hx1
  obtain ⟨rfl, rfl⟩ := hx1
  exact OpenSpec.preRow_of_cond 8 hx (by kernel_rfl) (fun k hk => by cases hk) (by kernel_rfl) (laid_met os)

set_option maxRecDepth 100000 in
theorem lifted (os : Os) (started : os.Started) (H : Type) (enc : TypeId × Value → H) (F : Stop.Interp) :
    ReturnsInHanded {} Tryd.checked os 4 .any ((OpenSpec.ofChange Rows.fnPageTextSpec).preRow enc Tryd.prog Tryd.f4 Rows.fnPageTextRow.domain false Rows.fnPageTextRow.laid) (((OpenSpec.ofChange Rows.fnPageTextSpec).at F).post enc Tryd.prog Tryd.f4 false true false false) := by
  refine returnsInHanded_of_row (C := Tryd.checked) (s := OpenSpec.ofChange Rows.fnPageTextSpec) own started (by kernel_rfl) Tryd.func4
    (witness_row_atRef (enc := enc) (C := Tryd.checked) false (Laid.world os) #[.slice none 0 0] rfl (by kernel_rfl) (by kernel_rfl) (by kernel_rfl) (witness_row os enc)) ?_
  intro W base args ds gs before hval hW _ _ _ hL _ _
  exact contract H enc W base args ds gs before hval hW (Laid.has_1 hL)

theorem said : Rows.FnPageTextSaid :=
  OpenClaim.holds_of_cond 4 Tryd.f4 rfl rfl rfl rfl rfl rfl rfl ⟨rfl, rfl, rfl, rfl, rfl⟩ rfl rfl rfl rfl rfl (by kernel_rfl) Tryd.func4 (by kernel_rfl)
    (of_decide_eq_true (by kernel_rfl)) (by unfold Func.isWrapper; first | (rw [if_pos (by decide +kernel)]; kernel_rfl) | (rw [if_neg (by decide +kernel)]; exact ⟨rfl, rfl⟩))
    (fun os started H enc _ F => by rw [OpenClaim.pre_eq_preRow]; exact lifted os started H enc F)

theorem plain (f : FuncId) (fn : Func) (hf : Tryd.pinned.checked.prog.funcNamed "loop.example/g00978/laws.FnPageText" = some f) (hfn : Tryd.pinned.checked.prog.funcs[f]? = some fn) :
    true = Tryd.pinned.checked.prog.looks [] ∧ ∀ (j : Nat) t, fn.params[j]? = some t → Tryd.pinned.checked.prog.wantsStandIn t = false := by
  obtain rfl : f = 4 := Option.some.inj ((show Tryd.prog.funcNamed "loop.example/g00978/laws.FnPageText" = some 4 by kernel_rfl).symm.trans hf) |>.symm
  obtain rfl : fn = Tryd.f4 := (Option.some.inj (Tryd.func4.symm.trans hfn)).symm
  refine ⟨by kernel_rfl, fun j t ht => ?_⟩
  rw [Tryd.params4] at ht
  have hm := Array.mem_of_getElem? ht
  simp only [List.mem_toArray, List.mem_cons, List.not_mem_nil, or_false] at hm
  subst hm
  exact (show Tryd.prog.wantsStandIn 22 = false by kernel_rfl)

/-- THE CARD -/
theorem proved : Rows.FnPageTextCardSaid :=
  Claim7.holds_tied_plain_at .later [] _ _ _ _ said (fun _ h => by cases h) (by kernel_rfl) (fun _ h => by cases h) fnPageText_row_tie rfl ⟨rfl, rfl⟩ (by kernel_rfl) rfl plain (by kernel_rfl)
#print axioms proved
end Go.Proofs.YtkmkpjpopobdbaaDoor.fnPageText

/- Called with any arguments, the law FnStores returns true and each argument reads afterwards as before; the listed package-level variables hold what the program's text lays. -/
import Derived.Test.YtkmkpjpopobdbaaDoorRows
import Derived.Test.YtkmkpjpopobdbaaDoorBig
import Derived.Test.YtkmkpjpopobdbaaDoorDrawPlaces
import Derived.Test.YtkmkpjpopobdbaaDoorDrawMachine
import Derived.Test.YtkmkpjpopobdbaaDoorEI07c
import Derived.Test.YtkmkpjpopobdbaaDoorTreeLaw
import Derived.Test.YtkmkpjpopobdbaaDoorCards
import Derived.Test.YtkmkpjpopobdbaaDoorTie
import Derived.Test.YtkmkpjpopobdbaaDoorLaid
import Derived.Deep.DeepHandedRow
import Derived.Deep.DeepWitnessRowRef
import Derived.Lib.LaidTab
import Derived.ChangeOld
import Derived.Below
import Derived.OpenVars
import Derived.WalkKit
import Derived.ProofKit
import Derived.OpenShut
import Derived.ShutString
namespace Go.Proofs.YtkmkpjpopobdbaaDoor.fnStores
open Go.ChangeShapes Go.WideShapes Go.ChangeAt Go.RowKit
open Go.ChangeMaps (open_string shut_string)
set_option linter.unusedVariables false

theorem own : ownKnob Tryd.prog.godebug = none := by kernel_rfl
theorem laidOut : laidOutB Tryd.prog = true := by kernel_rfl

/-- WHAT THE WALK IS TOLD OF A SLICE OF INTEGERS THAT CAME IN: it is nil; or it leads to a row of 'cap' cells, the numbers 'zs' (the first 'len' are its elements, the rest its spare room), each fitting its kind. -/
def IsRow (k : IntKind) (w : World) (a : Option Addr) (len cap : Nat) (zs : List Int) : Prop :=
  (a = none ∧ len = 0 ∧ cap = 0 ∧ zs = []) ∨
  ∃ x, a = some x ∧ len ≤ cap ∧ cap ≤ maxLen ∧ zs.length = cap ∧ (∀ i, i < zs.length → w.cell? (x.add i) = some (.int k (zs.getD i 0))) ∧ ∀ n ∈ zs, (Lit.int k n).wf = true

/-! ### STEP 1: THE WALK: the Go text returns true, AND WRITES NOTHING THAT WAS THERE: 'Below w.heap.size w w'' (Derived/Below.lean: '.refl', '.alloc', '.drew', '.setCell' at a new block, '.trans'). Open each 'IsRow' by 'rcases' AHEAD of 'go_enter'; part every test ahead of the walk. -/
set_option maxHeartbeats 2000000 in
set_option maxRecDepth 100000 in
theorem walk (a0 : Option Addr) (len0 cap0 : Nat) (z0 : List Int) (w : World) (w0 : IsRow .u8 w a0 len0 cap0 z0) (hT : Laid.LErrPageErrWriteErrValue w) :
    Calls Tryd.prog 3 #[.slice a0 len0 cap0] w fun e w' => e = .returned (.bool true) ∧ Below w.heap.size w w' := by
  have HT := Lib.hid hT.sents
  clear hT
  by_cases hbig : (1048576 : Int) < len0
  · go_enter Tryd.func3, Tryd.ntmps3
    go_wp2_with (go_at_call 8; refine (Dr.bigYes hbig).mono ?_; rintro e w' ⟨rfl, rfl⟩)
    go_ret
    exact ⟨rfl, Below.refl _ _⟩
  · have HR : Hid (Dr.IsRow .u8 w a0 len0 cap0 z0) := w0
    clear w0
    have hlen : (len0 : Int) ≤ 1048576 := by omega
    go_enter Tryd.func3, Tryd.ntmps3
    go_wp2_with fail
    refine (Dr.bigNo hlen).mono ?_
    rintro e w' ⟨rfl, rfl⟩
    go_wp2_with fail
    refine (Tr.drawMachine HR.out (by omega)).mono ?_
    rintro e w1 ⟨m, us, hok, hL, rfl, hown, hb1⟩
    have hsh := hown
    obtain ⟨bs, hsh, _⟩ := hsh
    obtain ⟨A, n, cap, A2, n2, cap2, A3, n3, cap3, rfl⟩ := Tr.sinv_Machine hsh
    have hn3 := (Tr.owned_lens3 hown).2.2
    rw [← hn3] at hL
    have HOK := Lib.hid hok
    have HSZ := Lib.hid (Tr.okM_sz hok)
    have HRD := Lib.hid hown.rd
    have HB_w1 := Lib.hid hb1
    clear hsh hown hb1 hok hn3
    obtain ⟨B, hs_B⟩ : ∃ B, w1.heap.size = B := ⟨_, rfl⟩
    have hzo_ := hs_B
    have hx_ : (w1.alloc (.cells #[.slice A n cap, .slice A2 n2 cap2, .slice A3 n3 cap3] 32)).heap[B]? = some (.cells #[.slice A n cap, .slice A2 n2 cap2, .slice A3 n3 cap3] 32 (0, 0)) := by rw [← hzo_]; exact heap_alloc_new w1 _
    have hb_ : Below w1.heap.size w1 (w1.alloc (.cells #[.slice A n cap, .slice A2 n2 cap2, .slice A3 n3 cap3] 32)) := (Below.refl _ _).alloc (Nat.le_refl _) _
    have hz_ : (w1.alloc (.cells #[.slice A n cap, .slice A2 n2 cap2, .slice A3 n3 cap3] 32)).heap.size = B + 1 := by simp [hzo_]
    obtain ⟨w2, hw_⟩ : ∃ z, (w1.alloc (.cells #[.slice A n cap, .slice A2 n2 cap2, .slice A3 n3 cap3] 32)) = z := ⟨_, rfl⟩
    rw [hw_] at hx_ hb_ hz_
    have HX_w2 := Lib.hid hx_
    have HB_w2 := Lib.hid hb_
    have HW_w2 := Lib.hid hw_
    have hz_w2 := Lib.hid hz_
    clear hx_ hb_ hw_ hz_ hzo_
    go_wp2_with fail
    rw [HW_w2.out]
    refine (Dr.drawPlaces (HR.out.of_block (fun x hx hc => ((Tr.below_step HB_w1.out HB_w2.out)).block x.block (HR.out.lt x hx hc))) (by omega)).mono ?_
    rintro e w3 ⟨v, l, hl, hx, rfl, ho, hb3⟩
    have HB_w3 := Lib.hid hb3
    obtain ⟨gp, cp, rfl, hgp, hgp3⟩ := Il.own_form ho (by omega)
    obtain ⟨p0, p1, p2, hp0, hp1, hp2, hq0, hq1, hq2⟩ : ∃ p0 p1 p2 : Int, w3.cell? ⟨gp, 0, none⟩ = some (.int .i64 p0) ∧ w3.cell? ⟨gp, 1, none⟩ = some (.int .i64 p1) ∧ w3.cell? ⟨gp, 2, none⟩ = some (.int .i64 p2) ∧ (0 ≤ p0 ∧ p0 < 10000) ∧ (0 ≤ p1 ∧ p1 < 10000) ∧ (0 ≤ p2 ∧ p2 < 10000) := by
      have h0 := ho.cellAt 0 (by omega)
      have h1 := ho.cellAt 1 (by omega)
      have h2 := ho.cellAt 2 (by omega)
      rw [Il.ints_at (by omega)] at h0 h1 h2
      exact ⟨_, _, _, h0, h1, h2, hx _ (List.getElem_mem _), hx _ (List.getElem_mem _), hx _ (List.getElem_mem _)⟩
    obtain ⟨ad, had, hadl⟩ : ∃ ad : Nat, p0 % (16 * (n3 : Int)) = (ad : Int) ∧ ad < 16 * n3 := by
      have h1 := Int.emod_nonneg p0 (show (16 * (n3 : Int)) ≠ 0 by omega)
      have h2 := Int.emod_lt_of_pos p0 (show (0 : Int) < 16 * n3 by omega)
      exact ⟨(p0 % (16 * (n3 : Int))).toNat, by omega, by omega⟩
    obtain ⟨ot, hot, hotl⟩ : ∃ ot : Nat, p1 % (16 * (n3 : Int)) = (ot : Int) ∧ ot < 16 * n3 := by
      have h1 := Int.emod_nonneg p1 (show (16 * (n3 : Int)) ≠ 0 by omega)
      have h2 := Int.emod_lt_of_pos p1 (show (0 : Int) < 16 * n3 by omega)
      exact ⟨(p1 % (16 * (n3 : Int))).toNat, by omega, by omega⟩
    obtain ⟨V, hV, hV0, hV1⟩ : ∃ V : Int, p2 % 1000 = V ∧ 0 ≤ V ∧ V ≤ 999 := ⟨_, rfl, by omega, by omega⟩
    have HAD := Lib.hid had
    have HOT := Lib.hid hot
    have HV := Lib.hid hV
    have HP2 := Lib.hid hp2
    have hn30 : ((16 * (n3 : Int)) == 0) = false := by simp; omega
    have hk2 : w3.cell? ⟨B, 2, none⟩ = some (.slice A3 n3 cap3) := Tr.cell_at HB_w3.out HX_w2.out 2
    have hsz : (Tr.eMachine m).sz ≤ 1048576 := by have := HSZ.out; omega
    have HZ := Lib.hid hsz
    clear ho hx hl hb3 had hot hV hsz hp2
    go_upto_region 8 with fail
    rw [HAD.out, HOT.out]
    have hrem : p2.tmod 1000 = V := by rw [Int.tmod_eq_emod_of_nonneg hq2.1]; exact HV.out
    have hd : Below w3.heap.size w3 w3.drew := (Below.refl _ _).drew
    have hdA : Below w3.heap.size w3 (w3.alloc (.cells #[.slice none 0 0, .slice none 0 0, .slice none 0 0] 32)).drew := ((Below.refl _ _).alloc (Nat.le_refl _) _).drew
    have HS : Hid (∀ W, Below w3.heap.size w3 W → (W.cell? ⟨B, 0, none⟩ = some (.slice A n cap) ∧ W.cell? ⟨B, 1, none⟩ = some (.slice A2 n2 cap2) ∧ W.cell? ⟨B, 2, none⟩ = some (.slice A3 n3 cap3)) ∧ W.cell? ⟨gp, 2, none⟩ = some (.int .i64 p2)) := fun W hb =>
      ⟨⟨Tr.cell_at (Tr.below_step HB_w3.out hb) HX_w2.out 0, Tr.cell_at (Tr.below_step HB_w3.out hb) HX_w2.out 1, Tr.cell_at (Tr.below_step HB_w3.out hb) HX_w2.out 2⟩, Tr.cell_below hb HP2.out⟩
    obtain ⟨CD, hCD⟩ : ∃ CD, (Tr.pStore m (ad : Int) V).2 = CD := ⟨_, rfl⟩
    have HCW : Hid (∀ W, Below w3.heap.size w3 W → Calls Tryd.prog 11 #[.agg #[.slice A n cap, .slice A2 n2 cap2, .slice A3 n3 cap3], .int .i64 ad, .int .i64 V] W (Tr.RetM (fun us => .tuple #[.agg us.toArray, .int .i64 CD]) (Tr.eMachine (Tr.pStore m (ad : Int) V).1) W)) := fun W hb => by
      have h := Tr.impl_Store m _ _ _ (ad : Int) V W (HRD.out.below (Tr.below_step (Tr.below_step HB_w2.out HB_w3.out) hb)) HZ.out (by unfold Tr.okI; omega) (by unfold Tr.okI; omega) (HT.out.below (Tr.below_step (Tr.below_step (Tr.below_step HB_w1.out HB_w2.out) HB_w3.out) hb))
      rw [hCD] at h
      exact h
    have HCD := Lib.hid hCD
    clear hCD hn30 hk2 hp0 hp1
    go_cut [8, 9] (fun s8 s9 wx => ∃ (D : Nat) (A5 : Option Addr) (n5 cap5 : Nat) (A6 : Option Addr) (n6 cap6 : Nat) (A7 : Option Addr) (n7 cap7 : Nat), s8 = .pointer (some ⟨D, 0, none⟩) ∧ s9 = .int .i64 CD ∧ Hid (Tr.Boxed3 w3 32 (Tr.eMachine (Tr.pStore m (ad : Int) V).1) (.slice A5 n5 cap5) (.slice A6 n6 cap6) (.slice A7 n7 cap7) D wx))
    case first =>
      go_region_held3 (fun W => (W.cell? ⟨B, 0, none⟩ = some (.slice A n cap) ∧ W.cell? ⟨B, 1, none⟩ = some (.slice A2 n2 cap2) ∧ W.cell? ⟨B, 2, none⟩ = some (.slice A3 n3 cap3)) ∧ W.cell? ⟨gp, 2, none⟩ = some (.int .i64 p2)) (first | exact HS.out _ (by assumption) | exact HS.out _ (hbu.alloc hbu.size _) | exact HS.out _ (hbu.setCell (p := ⟨w3.heap.size, 0, none⟩) (Nat.le_refl _) _) | exact HS.out _ ((hbu.setCell (p := ⟨w3.heap.size, 0, none⟩) (Nat.le_refl _) _).setCell (p := ⟨w3.heap.size, 1, none⟩) (Nat.le_refl _) _) | exact HS.out _ (((hbu.setCell (p := ⟨w3.heap.size, 0, none⟩) (Nat.le_refl _) _).setCell (p := ⟨w3.heap.size, 1, none⟩) (Nat.le_refl _) _).setCell (p := ⟨w3.heap.size, 2, none⟩) (Nat.le_refl _) _)) (first | (go_at_call 11; (with_reducible refine (HCW.out _ hdA).mono ?_); rintro eu wu ⟨us, rfl, hou, hbu0⟩; have hou2 := hou; obtain ⟨bsu, hshu, _⟩ := hou2; obtain ⟨A5, n5, cap5, A6, n6, cap6, A7, n7, cap7, rfl⟩ := Tr.sinv_Machine hshu; have hbu := Tr.below_step hdA hbu0; have hxo := (hbu0.block w3.heap.size (by simp)).trans (heap_alloc_new w3 (.cells #[.slice none 0 0, .slice none 0 0, .slice none 0 0] 32)); obtain ⟨q0, q1, q2, q3, q4, q5, hbx⟩ := Tr.boxed3_old hbu hxo (Nat.le_refl _) hou (by simp)) | (go_at_call 11; (with_reducible refine (HCW.out _ hd).mono ?_); rintro eu wu ⟨us, rfl, hou, hbu0⟩; have hou2 := hou; obtain ⟨bsu, hshu, _⟩ := hou2; obtain ⟨A5, n5, cap5, A6, n6, cap6, A7, n7, cap7, rfl⟩ := Tr.sinv_Machine hshu; have hbu := Tr.below_step hd hbu0; have hbx := Lib.hid (Tr.boxed3_new (T := 32) hbu hou.rd)))
      all_goals go_wp2_with fail
      all_goals (go_meet; exact ⟨_, _, _, _, _, _, _, _, _, _, rfl, rfl, hbx.out⟩)
    case rest =>
      obtain ⟨D, A5, n5, cap5, A6, n6, cap6, A7, n7, cap7, rfl, rfl, HBX⟩ := hcut
      have HB_wc := Lib.hid HBX.out.1
      have HXD := Lib.hid HBX.out.2.1
      have HRX := Lib.hid HBX.out.2.2
      have HCE : Hid (∀ (q : Nat) W, q < 1000 → Below w3.heap.size w3 W → Calls Tryd.prog 12 #[.agg #[.slice A3 n3 cap3], .int .i64 ((q : Int) / 16)] W (Tr.RetP (.agg #[.int .i64 (Tr.pEntry m (q : Int)).1.Mode, .int .i64 (Tr.pEntry m (q : Int)).1.Frame]) W)) := fun q W hq hb => by
        have h := Tr.spec_PageEntry m.Table _ ((q : Int) / 16) W ((Tr.rd_machine HRD.out).2.below (Tr.below_step (Tr.below_step HB_w2.out HB_w3.out) hb)) (Tr.sz_machine HZ.out).2.1 (by unfold Tr.okI; omega)
        rw [Tr.entry_nat]
        exact h
      obtain ⟨M, hM⟩ : ∃ M, (Tr.pEntry m (ad : Int)).1.Mode = M := ⟨_, rfl⟩
      obtain ⟨F, hF⟩ : ∃ F, (Tr.pEntry m (ad : Int)).1.Frame = F := ⟨_, rfl⟩
      have HCE1 : Hid (∀ W, Below w3.heap.size w3 W → Calls Tryd.prog 12 #[.agg #[.slice A3 n3 cap3], .int .i64 ((ad : Int) / 16)] W (Tr.RetP (.agg #[.int .i64 M, .int .i64 F]) W)) := fun W hb => by
        have h := HCE.out ad W (by omega) hb
        rw [hM, hF] at h
        exact h
      have HM := Lib.hid hM
      have HF := Lib.hid hF
      have hb2 : wc.cell? ⟨B, 2, none⟩ = some (.slice A3 n3 cap3) := Tr.cell_at (Tr.below_step HB_w3.out HB_wc.out) HX_w2.out 2
      clear hd hdA hrem hM hF
      go_wp2_with fail
      refine (HCE1.out wc HB_wc.out).mono ?_
      rintro e w4 ⟨rfl, hb4⟩
      have HB_w4 := Lib.hid hb4
      clear hb4 hb2
      go_upto_region 10 with fail
      obtain ⟨H, hs_H⟩ : ∃ B, w4.heap.size = B := ⟨_, rfl⟩
      have hzo_ := hs_H
      have hx_ : (w4.alloc (.cells #[.int .i64 M, .int .i64 F] 39)).heap[H]? = some (.cells #[.int .i64 M, .int .i64 F] 39 (0, 0)) := by rw [← hzo_]; exact heap_alloc_new w4 _
      have hb_ : Below w4.heap.size w4 (w4.alloc (.cells #[.int .i64 M, .int .i64 F] 39)) := (Below.refl _ _).alloc (Nat.le_refl _) _
      have hz_ : (w4.alloc (.cells #[.int .i64 M, .int .i64 F] 39)).heap.size = H + 1 := by simp [hzo_]
      obtain ⟨w5, hw_⟩ : ∃ z, (w4.alloc (.cells #[.int .i64 M, .int .i64 F] 39)) = z := ⟨_, rfl⟩
      rw [hw_] at hx_ hb_ hz_
      have HX_w5 := Lib.hid hx_
      have HB_w5 := Lib.hid hb_
      have HW_w5 := Lib.hid hw_
      have hz_w5 := Lib.hid hz_
      clear hx_ hb_ hw_ hz_ hzo_
      rw [HW_w5.out]
      have hh0 : w5.cell? ⟨H, 0, none⟩ = some (.int .i64 M) := Tr.cell_at (Below.refl _ _) HX_w5.out 0
      by_cases hm2 : M = 2
      · subst hm2
        obtain ⟨x, hst, hokx, hlx, hl2, hsame, hdiff⟩ := Tr.store_load HOK.out (addr := (ad : Int)) (other := (ot : Int)) (v := V) HM.out hV0 hV1
        obtain rfl : CD = 0 := by rw [← HCD.out, hst]
        rw [hst] at HRX
        have HZX := Lib.hid (Tr.okM_sz hokx)
        have HOKX := Lib.hid hokx
        obtain ⟨M2, hM2⟩ : ∃ M2, (Tr.pEntry m (ot : Int)).1.Mode = M2 := ⟨_, rfl⟩
        obtain ⟨F2, hF2⟩ : ∃ F2, (Tr.pEntry m (ot : Int)).1.Frame = F2 := ⟨_, rfl⟩
        have hK2 : (Tr.pEntry m (ot : Int)).2 = (ot : Int) % 16 := by rw [Tr.entry_nat]
        have hK1 : (Tr.pEntry m (ad : Int)).2 = (ad : Int) % 16 := by rw [Tr.entry_nat]
        obtain ⟨X, hX⟩ : ∃ X, (Tr.pLoad x (ot : Int)).1 = X := ⟨_, rfl⟩
        obtain ⟨O, hO⟩ : ∃ O, (Tr.pLoad m (ot : Int)).1 = O := ⟨_, rfl⟩
        obtain ⟨C, hC⟩ : ∃ C, (Tr.pLoad m (ot : Int)).2 = C := ⟨_, rfl⟩
        rw [hM2, hF2, HF.out, hK2, hK1, hX] at hsame
        rw [hM2, hF2, HF.out, hK2, hK1, hX, hO] at hdiff
        rw [hC] at hl2
        have HSAME := Lib.hid hsame
        have HDIFF := Lib.hid hdiff
        have HL1 : Hid (∀ W, Below wc.heap.size wc W → Calls Tryd.prog 13 #[.agg #[.slice A5 n5 cap5, .slice A6 n6 cap6, .slice A7 n7 cap7], .int .i64 ad] W (Tr.RetP (.tuple #[.int .i64 V, .int .i64 0]) W)) := fun W hb => by
          have h := Tr.impl_Load x _ _ _ (ad : Int) W (HRX.out.below hb) (by have := HZX.out; omega) (by unfold Tr.okI; omega) (HT.out.below (Tr.below_step (Tr.below_step (Tr.below_step (Tr.below_step HB_w1.out HB_w2.out) HB_w3.out) HB_wc.out) hb))
          rw [hlx] at h
          exact h
        have HL2 : Hid (∀ W, Below wc.heap.size wc W → Calls Tryd.prog 13 #[.agg #[.slice A5 n5 cap5, .slice A6 n6 cap6, .slice A7 n7 cap7], .int .i64 ot] W (Tr.RetP (.tuple #[.int .i64 X, .int .i64 C]) W)) := fun W hb => by
          have h := Tr.impl_Load x _ _ _ (ot : Int) W (HRX.out.below hb) (by have := HZX.out; omega) (by unfold Tr.okI; omega) (HT.out.below (Tr.below_step (Tr.below_step (Tr.below_step (Tr.below_step HB_w1.out HB_w2.out) HB_w3.out) HB_wc.out) hb))
          rw [hX, hl2] at h
          exact h
        have HL3 : Hid (∀ W, Below w3.heap.size w3 W → Calls Tryd.prog 14 #[.agg #[.slice A n cap, .slice A2 n2 cap2, .slice A3 n3 cap3], .int .i64 ot] W (Tr.RetP (.tuple #[.int .i64 O, .int .i64 C]) W)) := fun W hb => by
          have h := Tr.spec_Load m _ _ _ (ot : Int) W (HRD.out.below (Tr.below_step (Tr.below_step HB_w2.out HB_w3.out) hb)) HZ.out (by unfold Tr.okI; omega)
          rw [hO, hC] at h
          exact h
        have HCE2 : Hid (∀ W, Below w3.heap.size w3 W → Calls Tryd.prog 12 #[.agg #[.slice A3 n3 cap3], .int .i64 ((ot : Int) / 16)] W (Tr.RetP (.agg #[.int .i64 M2, .int .i64 F2]) W)) := fun W hb => by
          have h := HCE.out ot W (by omega) hb
          rw [hM2, hF2] at h
          exact h
        have HCO : Hid (∀ W, Below wc.heap.size wc W → Calls Tryd.prog 15 #[.agg #[.slice A5 n5 cap5, .slice A6 n6 cap6, .slice A7 n7 cap7]] W (Tr.TrueP W)) := fun W hb => by
          have h := Tr.impl_MachineOk x _ _ _ W (HRX.out.below hb) (by have := HZX.out; omega)
          rw [show Tr.pMachineOk x = true from decide_eq_true HOKX.out] at h
          exact h
        have hd0 : w5.cell? ⟨D, 0, none⟩ = some (.slice A5 n5 cap5) := Tr.cell_at (Tr.below_step HB_w4.out HB_w5.out) HXD.out 0
        have hd1 : w5.cell? ⟨D, 1, none⟩ = some (.slice A6 n6 cap6) := Tr.cell_at (Tr.below_step HB_w4.out HB_w5.out) HXD.out 1
        have hd2 : w5.cell? ⟨D, 2, none⟩ = some (.slice A7 n7 cap7) := Tr.cell_at (Tr.below_step HB_w4.out HB_w5.out) HXD.out 2
        clear hst hokx hlx hl2 hsame hdiff hM2 hF2 hK1 hK2 hX hO hC
        go_wp2_with fail
        refine (HL1.out w5 (Tr.below_step HB_w4.out HB_w5.out)).mono ?_
        rintro e w6 ⟨rfl, hb6⟩
        have HB_w6 := Lib.hid hb6
        have hd0 : w6.cell? ⟨D, 0, none⟩ = some (.slice A5 n5 cap5) := Tr.cell_at (Tr.below_step (Tr.below_step HB_w4.out HB_w5.out) HB_w6.out) HXD.out 0
        have hd1 : w6.cell? ⟨D, 1, none⟩ = some (.slice A6 n6 cap6) := Tr.cell_at (Tr.below_step (Tr.below_step HB_w4.out HB_w5.out) HB_w6.out) HXD.out 1
        have hd2 : w6.cell? ⟨D, 2, none⟩ = some (.slice A7 n7 cap7) := Tr.cell_at (Tr.below_step (Tr.below_step HB_w4.out HB_w5.out) HB_w6.out) HXD.out 2
        clear hb6
        go_wp2_with fail
        refine (HL2.out w6 (Tr.below_step (Tr.below_step HB_w4.out HB_w5.out) HB_w6.out)).mono ?_
        rintro e w7 ⟨rfl, hb7⟩
        have HB_w7 := Lib.hid hb7
        have he0 : w7.cell? ⟨B, 0, none⟩ = some (.slice A n cap) := Tr.cell_at (Tr.below_step (Tr.below_step (Tr.below_step (Tr.below_step (Tr.below_step HB_w3.out HB_wc.out) HB_w4.out) HB_w5.out) HB_w6.out) HB_w7.out) HX_w2.out 0
        have he1 : w7.cell? ⟨B, 1, none⟩ = some (.slice A2 n2 cap2) := Tr.cell_at (Tr.below_step (Tr.below_step (Tr.below_step (Tr.below_step (Tr.below_step HB_w3.out HB_wc.out) HB_w4.out) HB_w5.out) HB_w6.out) HB_w7.out) HX_w2.out 1
        have he2 : w7.cell? ⟨B, 2, none⟩ = some (.slice A3 n3 cap3) := Tr.cell_at (Tr.below_step (Tr.below_step (Tr.below_step (Tr.below_step (Tr.below_step HB_w3.out HB_wc.out) HB_w4.out) HB_w5.out) HB_w6.out) HB_w7.out) HX_w2.out 2
        clear hb7
        go_wp2_with fail
        refine (HL3.out w7 (Tr.below_step (Tr.below_step (Tr.below_step (Tr.below_step HB_wc.out HB_w4.out) HB_w5.out) HB_w6.out) HB_w7.out)).mono ?_
        rintro e w8 ⟨rfl, hb8⟩
        have HB_w8 := Lib.hid hb8
        have he2 : w8.cell? ⟨B, 2, none⟩ = some (.slice A3 n3 cap3) := Tr.cell_at (Tr.below_step (Tr.below_step (Tr.below_step (Tr.below_step (Tr.below_step (Tr.below_step HB_w3.out HB_wc.out) HB_w4.out) HB_w5.out) HB_w6.out) HB_w7.out) HB_w8.out) HX_w2.out 2
        clear hb8
        go_wp2_with fail
        refine (HCE2.out w8 (Tr.below_step (Tr.below_step (Tr.below_step (Tr.below_step (Tr.below_step HB_wc.out HB_w4.out) HB_w5.out) HB_w6.out) HB_w7.out) HB_w8.out)).mono ?_
        rintro e w9 ⟨rfl, hb9⟩
        have HB_w9 := Lib.hid hb9
        clear hb9
        go_upto_region 16 with fail
        obtain ⟨J, hs_J⟩ : ∃ B, w9.heap.size = B := ⟨_, rfl⟩
        have hzo_ := hs_J
        have hx_ : (w9.alloc (.cells #[.int .i64 M2, .int .i64 F2] 39)).heap[J]? = some (.cells #[.int .i64 M2, .int .i64 F2] 39 (0, 0)) := by rw [← hzo_]; exact heap_alloc_new w9 _
        have hb_ : Below w9.heap.size w9 (w9.alloc (.cells #[.int .i64 M2, .int .i64 F2] 39)) := (Below.refl _ _).alloc (Nat.le_refl _) _
        have hz_ : (w9.alloc (.cells #[.int .i64 M2, .int .i64 F2] 39)).heap.size = J + 1 := by simp [hzo_]
        obtain ⟨w10, hw_⟩ : ∃ z, (w9.alloc (.cells #[.int .i64 M2, .int .i64 F2] 39)) = z := ⟨_, rfl⟩
        rw [hw_] at hx_ hb_ hz_
        have HX_w10 := Lib.hid hx_
        have HB_w10 := Lib.hid hb_
        have HW_w10 := Lib.hid hw_
        have hz_w10 := Lib.hid hz_
        clear hx_ hb_ hw_ hz_ hzo_
        rw [HW_w10.out]
        have hj0 : w10.cell? ⟨J, 0, none⟩ = some (.int .i64 M2) := Tr.cell_at (Below.refl _ _) HX_w10.out 0
        have hj1 : w10.cell? ⟨J, 1, none⟩ = some (.int .i64 F2) := Tr.cell_at (Below.refl _ _) HX_w10.out 1
        have hh1 : w10.cell? ⟨H, 1, none⟩ = some (.int .i64 F) := Tr.cell_at (Tr.below_step (Tr.below_step (Tr.below_step (Tr.below_step HB_w6.out HB_w7.out) HB_w8.out) HB_w9.out) HB_w10.out) HX_w5.out 1
        have hp2 : w10.cell? ⟨gp, 2, none⟩ = some (.int .i64 p2) := Tr.cell_below (Tr.below_step (Tr.below_step (Tr.below_step (Tr.below_step (Tr.below_step (Tr.below_step (Tr.below_step HB_wc.out HB_w4.out) HB_w5.out) HB_w6.out) HB_w7.out) HB_w8.out) HB_w9.out) HB_w10.out) HP2.out
        have hd0 : w10.cell? ⟨D, 0, none⟩ = some (.slice A5 n5 cap5) := Tr.cell_at (Tr.below_step (Tr.below_step (Tr.below_step (Tr.below_step (Tr.below_step (Tr.below_step HB_w4.out HB_w5.out) HB_w6.out) HB_w7.out) HB_w8.out) HB_w9.out) HB_w10.out) HXD.out 0
        have hd1 : w10.cell? ⟨D, 1, none⟩ = some (.slice A6 n6 cap6) := Tr.cell_at (Tr.below_step (Tr.below_step (Tr.below_step (Tr.below_step (Tr.below_step (Tr.below_step HB_w4.out HB_w5.out) HB_w6.out) HB_w7.out) HB_w8.out) HB_w9.out) HB_w10.out) HXD.out 1
        have hd2 : w10.cell? ⟨D, 2, none⟩ = some (.slice A7 n7 cap7) := Tr.cell_at (Tr.below_step (Tr.below_step (Tr.below_step (Tr.below_step (Tr.below_step (Tr.below_step HB_w4.out HB_w5.out) HB_w6.out) HB_w7.out) HB_w8.out) HB_w9.out) HB_w10.out) HXD.out 2
        have hVV : p2 % 1000 = V := HV.out
        obtain ⟨KO, hKO⟩ : ∃ KO, (ot : Int) % 16 = KO := ⟨_, rfl⟩
        obtain ⟨KA, hKA⟩ : ∃ KA, (ad : Int) % 16 = KA := ⟨_, rfl⟩
        rw [hKO, hKA] at HSAME HDIFF
        by_cases hm0 : M2 = 0
        · obtain rfl : X = O := HDIFF.out (fun h => h.1 hm0)
          subst hm0
          clear HSAME HDIFF
          go_wp2_with fail
          refine (HCO.out w10 (Tr.below_step (Tr.below_step (Tr.below_step (Tr.below_step (Tr.below_step (Tr.below_step HB_w4.out HB_w5.out) HB_w6.out) HB_w7.out) HB_w8.out) HB_w9.out) HB_w10.out)).mono ?_
          rintro e w11 ⟨rfl, hb11⟩
          have HB_w11 := Lib.hid hb11
          clear hb11
          go_wp2
          go_ret
          exact ⟨rfl, (Tr.below_step (Tr.below_step (Tr.below_step (Tr.below_step (Tr.below_step (Tr.below_step (Tr.below_step (Tr.below_step (Tr.below_step (Tr.below_step (Tr.below_step HB_w1.out HB_w2.out) HB_w3.out) HB_wc.out) HB_w4.out) HB_w5.out) HB_w6.out) HB_w7.out) HB_w8.out) HB_w9.out) HB_w10.out) HB_w11.out)⟩
        · have hmn : (M2 != 0) = true := by simp [hm0]
          by_cases hff : F2 = F
          · have hfe : (F2 == F) = true := by simp [hff]
            by_cases hkk : KO = KA
            · have hke : (KO == KA) = true := by simp [hkk]
              obtain rfl : X = V := HSAME.out ⟨hm0, hff, hkk⟩
              clear HSAME HDIFF hm0 hff hkk
              go_wp2_with fail
              refine (HCO.out w10 (Tr.below_step (Tr.below_step (Tr.below_step (Tr.below_step (Tr.below_step (Tr.below_step HB_w4.out HB_w5.out) HB_w6.out) HB_w7.out) HB_w8.out) HB_w9.out) HB_w10.out)).mono ?_
              rintro e w11 ⟨rfl, hb11⟩
              have HB_w11 := Lib.hid hb11
              clear hb11
              go_wp2
              go_ret
              exact ⟨rfl, (Tr.below_step (Tr.below_step (Tr.below_step (Tr.below_step (Tr.below_step (Tr.below_step (Tr.below_step (Tr.below_step (Tr.below_step (Tr.below_step (Tr.below_step HB_w1.out HB_w2.out) HB_w3.out) HB_wc.out) HB_w4.out) HB_w5.out) HB_w6.out) HB_w7.out) HB_w8.out) HB_w9.out) HB_w10.out) HB_w11.out)⟩
            · have hke : (KO == KA) = false := by simp [hkk]
              obtain rfl : X = O := HDIFF.out (fun h => hkk h.2.2)
              clear HSAME HDIFF hm0 hff hkk
              go_wp2_with fail
              refine (HCO.out w10 (Tr.below_step (Tr.below_step (Tr.below_step (Tr.below_step (Tr.below_step (Tr.below_step HB_w4.out HB_w5.out) HB_w6.out) HB_w7.out) HB_w8.out) HB_w9.out) HB_w10.out)).mono ?_
              rintro e w11 ⟨rfl, hb11⟩
              have HB_w11 := Lib.hid hb11
              clear hb11
              go_wp2
              go_ret
              exact ⟨rfl, (Tr.below_step (Tr.below_step (Tr.below_step (Tr.below_step (Tr.below_step (Tr.below_step (Tr.below_step (Tr.below_step (Tr.below_step (Tr.below_step (Tr.below_step HB_w1.out HB_w2.out) HB_w3.out) HB_wc.out) HB_w4.out) HB_w5.out) HB_w6.out) HB_w7.out) HB_w8.out) HB_w9.out) HB_w10.out) HB_w11.out)⟩
          · have hfe : (F2 == F) = false := by simp [hff]
            obtain rfl : X = O := HDIFF.out (fun h => hff h.2.1)
            clear HSAME HDIFF hm0 hff
            go_wp2_with fail
            refine (HCO.out w10 (Tr.below_step (Tr.below_step (Tr.below_step (Tr.below_step (Tr.below_step (Tr.below_step HB_w4.out HB_w5.out) HB_w6.out) HB_w7.out) HB_w8.out) HB_w9.out) HB_w10.out)).mono ?_
            rintro e w11 ⟨rfl, hb11⟩
            have HB_w11 := Lib.hid hb11
            clear hb11
            go_wp2
            go_ret
            exact ⟨rfl, (Tr.below_step (Tr.below_step (Tr.below_step (Tr.below_step (Tr.below_step (Tr.below_step (Tr.below_step (Tr.below_step (Tr.below_step (Tr.below_step (Tr.below_step HB_w1.out HB_w2.out) HB_w3.out) HB_wc.out) HB_w4.out) HB_w5.out) HB_w6.out) HB_w7.out) HB_w8.out) HB_w9.out) HB_w10.out) HB_w11.out)⟩
      · have hmn : (M != 2) = true := by simp [hm2]
        rcases Tr.store_no HOK.out (addr := (ad : Int)) (v := V) (by rw [HM.out]; exact hm2) with ⟨h0, h1⟩ | ⟨h0, h1⟩
        · obtain rfl : M = 0 := by rw [← HM.out]; exact h0
          obtain rfl : CD = 1 := by rw [← HCD.out]; exact h1
          clear h0 h1 hm2 hmn
          go_wp2
          go_ret
          exact ⟨rfl, (Tr.below_step (Tr.below_step (Tr.below_step (Tr.below_step (Tr.below_step HB_w1.out HB_w2.out) HB_w3.out) HB_wc.out) HB_w4.out) HB_w5.out)⟩
        · obtain rfl : M = 1 := by rw [← HM.out]; exact h0
          obtain rfl : CD = 2 := by rw [← HCD.out]; exact h1
          clear h0 h1 hm2 hmn
          go_wp2
          go_ret
          exact ⟨rfl, (Tr.below_step (Tr.below_step (Tr.below_step (Tr.below_step (Tr.below_step HB_w1.out HB_w2.out) HB_w3.out) HB_wc.out) HB_w4.out) HB_w5.out)⟩

set_option maxRecDepth 100000 in
theorem contract (H : Type) (enc : TypeId × Value → H) (W : World) (base : Nat) (args : Array Value) (ds gs : List (DataW H)) (before : List MemPlace)
    (hval0 : ∀ (j : Nat) t v, Tryd.f3.params[j]? = some t → args[j]? = some v → Value.okWide Tryd.prog W .any base t v)
    (hW : DataW.Whole enc Tryd.prog Tryd.f3.params.toList Rows.fnStoresSpec.vars false W args.toList ds gs before) (hT : Laid.LErrPageErrWriteErrValue W) :
    Calls Tryd.prog 3 args W fun e W' => ∃ v, e = .returned v ∧ Rows.fnStoresSpec.post enc Tryd.prog Tryd.f3 false true false false W args v W' := by
  have hval : ∀ (j : Nat) t v, Tryd.f3.params[j]? = some t → args[j]? = some v → Value.okWide Tryd.prog W .any base t v := hval0
  have hW' := hW
  obtain ⟨p, q, hA0, hV, rfl, hfz, hnd⟩ := hW
  have hA : DataW.TrodAll enc Tryd.prog W 0 (fun _ => true) true Tryd.f3.params.toList args.toList ds p := hA0
  rw [Tryd.params3] at hA hval
  obtain ⟨v0, vs0, d0, ds0, p0, q0, hargs, rfl, rfl, h0, r0⟩ := trodAll_cons hA
  obtain ⟨rfl, rfl, rfl⟩ := trodAll_nil r0
  obtain rfl : args = #[v0] := by cases args; simp_all
  obtain ⟨g0, g1, g2, rfl⟩ := Laid.vars3 hV
  obtain ⟨a0, len0, cap0, rfl⟩ := okWide_slice Tryd.underlying22 (hval 0 22 v0 rfl rfl)
  have k0 := h0
  have lt0 : ∀ x ∈ p0, x.block < W.heap.size := by obtain ⟨m, hm⟩ := k0; exact DataW.trod_lt m _ _ _ hm
  obtain ⟨z0, w0⟩ : ∃ zs, IsRow .u8 W a0 len0 cap0 zs := by
    obtain ⟨fuel, hf⟩ := h0
    rcases open_ints Tryd.underlying22 Tryd.underlying5 (by kernel_rfl) hf with ⟨hcs, _⟩ | ⟨x, l, c, zs, hcs, _, hl, hm, hz, _, hcell, hwz⟩
    · simp [Value.cells] at hcs
      obtain ⟨rfl, rfl, rfl⟩ := hcs
      exact ⟨[], .inl ⟨rfl, rfl, rfl, rfl⟩⟩
    · simp [Value.cells] at hcs
      obtain ⟨rfl, rfl, rfl⟩ := hcs
      exact ⟨zs, .inr ⟨_, rfl, hl, hm, by simpa using hz, hcell, hwz⟩⟩
  clear hA0 hval0
  refine (walk a0 len0 cap0 z0 W w0 hT).mono fun e W' ⟨he, bel⟩ => ?_
  subst he
  exact ⟨_, rfl, _, _, _, [], _, q, hW', trodAll_mk1 (shut_bool Tryd.underlying4 _), (trodAll_cons_mk (Below.trod laidOut (by kernel_rfl) (of_decide_eq_true (by kernel_rfl)) k0 bel lt0) trodAll_mk0), bel.trodVars Laid.laidOut (by kernel_rfl) hV, bel.frame _, fun h => by cases h⟩

theorem laid_met (os : Os) : laidMet Tryd.prog Rows.fnStoresRow.laid ((Laid.world os).forCall (fun _ _ => 0) ⟨#[], #[.slice none 0 0], []⟩).memory :=
  laidMet_of_run' 8 (by kernel_rfl) (by kernel_rfl)
theorem witness_row (os : Os) {H : Type} (enc : TypeId × Value → H) :
    (OpenSpec.ofChange Rows.fnStoresSpec).preRow enc Tryd.prog Tryd.f3 Rows.fnStoresRow.domain false Rows.fnStoresRow.laid ((Laid.world os).forCall (fun _ _ => 0) ⟨#[], #[.slice none 0 0], []⟩).memory #[.slice none 0 0] := by
  have hw : (DataW.whole enc Tryd.prog ((Laid.world os).forCall (fun _ _ => 0) ⟨#[], #[.slice none 0 0], []⟩).memory Tryd.f3.params.toList Rows.fnStoresSpec.vars false (#[.slice none 0 0] : Array Value).toList 8).map (fun x => (x.1, x.2.1)) = some ([.nil], [.held (enc (133, .pointer (some ⟨(World.settled Tryd.prog os).heap.size + 1, 0, none⟩))), .held (enc (133, .pointer (some ⟨(World.settled Tryd.prog os).heap.size + 2, 0, none⟩))), .held (enc (133, .pointer (some ⟨(World.settled Tryd.prog os).heap.size + 0, 0, none⟩)))]) := by kernel_rfl
  obtain ⟨⟨x1, x2, x3⟩, hx, hx1⟩ := Option.map_eq_some_iff.1 hw
  simp only [Prod.mk.injEq] at hx1
  obtain ⟨rfl, rfl⟩ := hx1
  exact OpenSpec.preRow_of_cond 8 hx (by kernel_rfl) (fun k hk => by cases hk) (by kernel_rfl) (laid_met os)

set_option maxRecDepth 100000 in
theorem lifted (os : Os) (started : os.Started) (H : Type) (enc : TypeId × Value → H) (F : Stop.Interp) :
    ReturnsInHanded {} Tryd.checked os 3 .any ((OpenSpec.ofChange Rows.fnStoresSpec).preRow enc Tryd.prog Tryd.f3 Rows.fnStoresRow.domain false Rows.fnStoresRow.laid) (((OpenSpec.ofChange Rows.fnStoresSpec).at F).post enc Tryd.prog Tryd.f3 false true false false) := by
  refine returnsInHanded_of_row (C := Tryd.checked) (s := OpenSpec.ofChange Rows.fnStoresSpec) own started (by kernel_rfl) Tryd.func3
    (witness_row_atRef (enc := enc) (C := Tryd.checked) false (Laid.world os) #[.slice none 0 0] rfl (by kernel_rfl) (by kernel_rfl) (by kernel_rfl) (witness_row os enc)) ?_
  intro W base args ds gs before hval hW _ _ _ hL _ _
  exact contract H enc W base args ds gs before hval hW (Laid.has_1 hL)

theorem said : Rows.FnStoresSaid :=
  OpenClaim.holds_of_cond 3 Tryd.f3 rfl rfl rfl rfl rfl rfl rfl ⟨rfl, rfl, rfl, rfl, rfl⟩ rfl rfl rfl rfl rfl (by kernel_rfl) Tryd.func3 (by kernel_rfl)
    (of_decide_eq_true (by kernel_rfl)) (by unfold Func.isWrapper; first | (rw [if_pos (by decide +kernel)]; kernel_rfl) | (rw [if_neg (by decide +kernel)]; exact ⟨rfl, rfl⟩))
    (fun os started H enc _ F => by rw [OpenClaim.pre_eq_preRow]; exact lifted os started H enc F)

theorem plain (f : FuncId) (fn : Func) (hf : Tryd.pinned.checked.prog.funcNamed "loop.example/g00978/laws.FnStores" = some f) (hfn : Tryd.pinned.checked.prog.funcs[f]? = some fn) :
    true = Tryd.pinned.checked.prog.looks [] ∧ ∀ (j : Nat) t, fn.params[j]? = some t → Tryd.pinned.checked.prog.wantsStandIn t = false := by
  obtain rfl : f = 3 := Option.some.inj ((show Tryd.prog.funcNamed "loop.example/g00978/laws.FnStores" = some 3 by kernel_rfl).symm.trans hf) |>.symm
  obtain rfl : fn = Tryd.f3 := (Option.some.inj (Tryd.func3.symm.trans hfn)).symm
  refine ⟨by kernel_rfl, fun j t ht => ?_⟩
  rw [Tryd.params3] at ht
  have hm := Array.mem_of_getElem? ht
  simp only [List.mem_toArray, List.mem_cons, List.not_mem_nil, or_false] at hm
  subst hm
  exact (show Tryd.prog.wantsStandIn 22 = false by kernel_rfl)

/-- THE CARD -/
theorem proved : Rows.FnStoresCardSaid :=
  Claim7.holds_tied_plain_at .later [] _ _ _ _ said (fun _ h => by cases h) (by kernel_rfl) (fun _ h => by cases h) fnStores_row_tie rfl ⟨rfl, rfl⟩ (by kernel_rfl) rfl plain (by kernel_rfl)
#print axioms proved
end Go.Proofs.YtkmkpjpopobdbaaDoor.fnStores

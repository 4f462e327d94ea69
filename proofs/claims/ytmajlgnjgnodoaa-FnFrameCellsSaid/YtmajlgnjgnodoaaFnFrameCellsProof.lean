/- Called with any arguments, the law FnFrameCells returns true and each argument reads afterwards as before. No condition. -/
import Derived.Test.YtmajlgnjgnodoaaRows
import Derived.Test.YtmajlgnjgnodoaaBig
import Derived.Test.YtmajlgnjgnodoaaDrawFrames
import Derived.Test.YtmajlgnjgnodoaaDrawPlaces
import Derived.Test.YtmajlgnjgnodoaaM05c
import Derived.Test.YtmajlgnjgnodoaaS05e
import Derived.Test.YtmajlgnjgnodoaaI05e
import Derived.Test.YtmajlgnjgnodoaaTreeLaw
import Derived.WalkKit
import Derived.ProofKit
import Derived.OpenShut
import Derived.ShutString
import Derived.ChangeOld
import Derived.Below
namespace Go.Proofs.Ytmajlgnjgnodoaa.fnFrameCells
open Go.ChangeShapes Go.WideShapes Go.ChangeAt Go.RowKit
open Go.ChangeMaps (open_string shut_string)
set_option linter.unusedVariables false

theorem own : ownKnob Try.prog.godebug = none := by kernel_rfl
theorem laidOut : laidOutB Try.prog = true := by kernel_rfl

/-- WHAT THE WALK IS TOLD OF A SLICE OF INTEGERS THAT CAME IN: it is nil; or it leads to a row of 'cap' cells, the numbers 'zs' (the first 'len' are its elements, the rest its spare room), each fitting its kind. -/
def IsRow (k : IntKind) (w : World) (a : Option Addr) (len cap : Nat) (zs : List Int) : Prop :=
  (a = none ∧ len = 0 ∧ cap = 0 ∧ zs = []) ∨
  ∃ x, a = some x ∧ len ≤ cap ∧ cap ≤ maxLen ∧ zs.length = cap ∧ (∀ i, i < zs.length → w.cell? (x.add i) = some (.int k (zs.getD i 0))) ∧ ∀ n ∈ zs, (Lit.int k n).wf = true

/-! ### STEP 1: THE WALK: the Go text returns true, AND WRITES NOTHING THAT WAS THERE: 'Below w.heap.size w w'' (Derived/Below.lean: '.refl', '.alloc', '.drew', '.setCell' at a new block, '.trans'). Open each 'IsRow' by 'rcases' AHEAD of 'go_enter'; part every test ahead of the walk. -/
set_option maxRecDepth 100000 in
theorem walk (a0 : Option Addr) (len0 cap0 : Nat) (z0 : List Int) (w : World) (w0 : IsRow .u8 w a0 len0 cap0 z0) :
    Calls Try.prog 4 #[.slice a0 len0 cap0] w fun e w' => e = .returned (.bool true) ∧ Below w.heap.size w w' := by
  by_cases hbig : (1048576 : Int) < len0
  · go_enter Try.func4, Try.ntmps4
    go_wp2_with (go_at_call 13; refine (Dr.bigYes hbig).mono ?_; rintro e w' ⟨rfl, rfl⟩)
    go_ret
    exact ⟨rfl, Below.refl _ _⟩
  · have HR : Hid (Dr.IsRow .u8 w a0 len0 cap0 z0) := w0
    clear w0
    have hlen : (len0 : Int) ≤ 1048576 := by omega
    go_enter Try.func4, Try.ntmps4
    go_wp2_with fail
    refine (Dr.bigNo hlen).mono ?_
    rintro e w' ⟨rfl, rfl⟩
    go_wp2_with fail
    refine (Tr.drawFrames HR.out (by omega)).mono ?_
    rintro e w1 ⟨f, us, hok, rfl, hown, hb1⟩
    have hsh := hown
    obtain ⟨bs, hsh, _⟩ := hsh
    obtain ⟨A, n, cap, A2, n2, cap2, rfl⟩ := Tr.sinv_Frames hsh
    obtain ⟨b0, b1, _, _, hu1⟩ := Tr.parts_Frames hsh
    have hsz := Tr.ok_sz hok
    have hn2 : n2 = f.Used.length := by rw [(Tr.own_cells hu1 (Tr.len_map (E := Tr.eB) (k := 1) (fun _ => rfl))).1, List.length_map]
    have hn2' : (n2 : Int) ≤ 32 := by have := hok.1; have := hok.2.1; omega
    have HN2 := Lib.hid hn2
    have HOK := Lib.hid hok
    have HSZ := Lib.hid hsz
    have HU1 := Lib.hid hu1
    have HRD := Lib.hid hown.rd
    have HB_w1 := Lib.hid hb1
    clear hsh hown hb1 hok hsz hn2 hu1
    obtain ⟨B, hs_B⟩ : ∃ B, w1.heap.size = B := ⟨_, rfl⟩
    have hzo_ := hs_B
    have hx_ : (w1.alloc (.cells #[.slice A n cap, .slice A2 n2 cap2] 27)).heap[B]? = some (.cells #[.slice A n cap, .slice A2 n2 cap2] 27 (0, 0)) := by rw [← hzo_]; exact heap_alloc_new w1 _
    have hb_ : Below w1.heap.size w1 (w1.alloc (.cells #[.slice A n cap, .slice A2 n2 cap2] 27)) := (Below.refl _ _).alloc (Nat.le_refl _) _
    have hz_ : (w1.alloc (.cells #[.slice A n cap, .slice A2 n2 cap2] 27)).heap.size = B + 1 := by simp [hzo_]
    obtain ⟨w2, hw_⟩ : ∃ z, (w1.alloc (.cells #[.slice A n cap, .slice A2 n2 cap2] 27)) = z := ⟨_, rfl⟩
    rw [hw_] at hx_ hb_ hz_
    have HX_w2 := Lib.hid hx_
    have HB_w2 := Lib.hid hb_
    have HW_w2 := Lib.hid hw_
    have hz_w2 := Lib.hid hz_
    clear hx_ hb_ hw_ hz_ hzo_
    go_wp2_with fail
    rw [HW_w2.out]
    refine (Dr.drawPlaces (HR.out.of_block (fun x hx hc => ((Tr.below_step HB_w1.out HB_w2.out)).block x.block (HR.out.lt x hx hc))) (by omega)).mono ?_
    rintro e w3 ⟨v, l, hl, hx, rfl, ho, hb3⟩
    have HB_w3 := Lib.hid hb3
    obtain ⟨gp, cp, rfl, hgp, hgp3⟩ := Il.own_form ho (by omega)
    obtain ⟨p0, p1, p2, hp0, hp1, hp2, hq0, hq1, hq2⟩ : ∃ p0 p1 p2 : Int, w3.cell? ⟨gp, 0, none⟩ = some (.int .i64 p0) ∧ w3.cell? ⟨gp, 1, none⟩ = some (.int .i64 p1) ∧ w3.cell? ⟨gp, 2, none⟩ = some (.int .i64 p2) ∧ (0 ≤ p0 ∧ p0 < 10000) ∧ (0 ≤ p1 ∧ p1 < 10000) ∧ (0 ≤ p2 ∧ p2 < 10000) := by
      have h0 := ho.cellAt 0 (by omega)
      have h1 := ho.cellAt 1 (by omega)
      have h2 := ho.cellAt 2 (by omega)
      rw [Il.ints_at (by omega)] at h0 h1 h2
      exact ⟨_, _, _, h0, h1, h2, hx _ (List.getElem_mem _), hx _ (List.getElem_mem _), hx _ (List.getElem_mem _)⟩
    have HP0 := Lib.hid hp0
    have HP1 := Lib.hid hp1
    have HP2 := Lib.hid hp2
    have hB2 := lt_of_block HX_w2.out
    have hBg : B < gp := by omega
    have HX3 := Lib.hid (((HB_w3.out).block B hB2).trans HX_w2.out)
    have hcb0 : w3.cell? ⟨B, 0, none⟩ = some (.slice A n cap) := Tr.cell_of_block HX3.out 0
    have hcb1 : w3.cell? ⟨B, 1, none⟩ = some (.slice A2 n2 cap2) := Tr.cell_of_block HX3.out 1
    clear ho hx hl hb3 hp0 hp1 hp2
    go_wp2_with fail
    refine (Tr.spec_FrameTake f _ _ w3 (HRD.out.below (Tr.below_step HB_w2.out HB_w3.out)) (by have := HSZ.out; omega)).mono ?_
    rintro e w4 ⟨us4, rfl, hown4, hb4⟩
    have hsh4 := hown4
    obtain ⟨bs4, hsh4, _⟩ := hsh4
    obtain ⟨A3, n3, cap3, A4, n4, cap4, rfl⟩ := Tr.sinv_Frames hsh4
    have HB_w4 := Lib.hid hb4
    have hx4 := ((HB_w4.out).block B (by omega)).trans HX3.out
    have hd0 := Tr.cell_of_block hx4 0
    have hd1 := Tr.free_of_block hx4 0
    have hx5 := Tr.block_set hx4 0 (.slice A3 n3 cap3)
    have hd2 : (w4.setCell ⟨B, 0, none⟩ (.slice A3 n3 cap3)).cell? ⟨B, 1, none⟩ = some (.slice A2 n2 cap2) := Tr.cell_of_block hx5 1
    have hd3 := Tr.free_of_block hx5 1
    have HX5 := Lib.hid (Tr.block_set hx5 1 (.slice A4 n4 cap4))
    have HO5 := Lib.hid ((hown4.setCell (p := ⟨B, 0, none⟩) (by show B < w3.heap.size; omega) (.slice A3 n3 cap3)).setCell (p := ⟨B, 1, none⟩) (by show B < w3.heap.size; omega) (.slice A4 n4 cap4)).rd
    have HB5 := Lib.hid (((Tr.below_step (Tr.below_step (Tr.below_step HB_w1.out HB_w2.out) HB_w3.out) HB_w4.out).setCell (p := ⟨B, 0, none⟩) (by show w.heap.size ≤ B; have := HB_w1.out.size; omega) (.slice A3 n3 cap3)).setCell (p := ⟨B, 1, none⟩) (by show w.heap.size ≤ B; have := HB_w1.out.size; omega) (.slice A4 n4 cap4))
    obtain ⟨w5, hw5⟩ : ∃ w5, (w4.setCell ⟨B, 0, none⟩ (.slice A3 n3 cap3)).setCell ⟨B, 1, none⟩ (.slice A4 n4 cap4) = w5 := ⟨_, rfl⟩
    have HP : Hid (∀ (j : Nat) (v : Value), w3.cell? ⟨gp, j, none⟩ = some v → w5.cell? ⟨gp, j, none⟩ = some v) := fun j v h => by
      rw [← hw5]
      refine (World.cell?_of_block (a := ⟨gp, j, none⟩) (w := w4) ?_).trans (Tr.cell_below HB_w4.out h)
      exact (Below.heap_setCell _ _ _ _ (by show gp ≠ B; omega)).trans (Below.heap_setCell _ _ _ _ (by show gp ≠ B; omega))
    rw [hw5] at HX5 HO5 HB5
    have HW5 := Lib.hid hw5
    have hs5 : gp < w5.heap.size ∧ B < w5.heap.size := ⟨World.block_lt_of_cell? w5 _ (HP.out 0 _ HP0.out), lt_of_block HX5.out⟩
    have he0 : w5.cell? ⟨B, 0, none⟩ = some (.slice A3 n3 cap3) := Tr.cell_of_block HX5.out 0
    have he1 : w5.cell? ⟨B, 1, none⟩ = some (.slice A4 n4 cap4) := Tr.cell_of_block HX5.out 1
    clear hsh4 hown4 hb4 hx4 hx5 hw5
    rcases Tr.take_cases HOK.out with ⟨ht, _, hall⟩ | ⟨i, ht, hp, _⟩
    · have HP' := Lib.hid ht
      rw [ht] at HO5
      clear ht hall
      rw [HP'.out]
      go_wp2_with fail
      rw [HW5.out]
      refine (Tr.impl_FrameTake f _ _ w5 HO5.out (by have := HSZ.out; omega)).mono ?_
      rintro e w6 ⟨us6, rfl, hown6, hb6⟩
      obtain ⟨bs6, hsh6, _⟩ := hown6
      obtain ⟨A5, n5, cap5, A6, n6, cap6, rfl⟩ := Tr.sinv_Frames hsh6
      have HB6 := Lib.hid (Tr.below_step HB5.out hb6)
      clear hsh6 hb6
      rw [HP'.out]
      go_wp2
      go_ret
      exact ⟨rfl, HB6.out.alloc HB6.out.size _⟩
    · rw [hp] at HO5
      have HT := Lib.hid ht
      have HPP := Lib.hid hp
      have hv0 : 0 ≤ p2 % 1000 := by omega
      have hv1 : p2 % 1000 ≤ 999 := by omega
      have hk0 : 0 ≤ p0 % 16 := by omega
      have hk1 : p0 % 16 ≤ 15 := by omega
      have hj0 : 0 ≤ p1 % 16 := by omega
      have hj1 : p1 % 16 ≤ 15 := by omega
      obtain ⟨V, hV⟩ : ∃ V, p2 % 1000 = V := ⟨_, rfl⟩
      obtain ⟨K, hK⟩ : ∃ K, p0 % 16 = K := ⟨_, rfl⟩
      obtain ⟨J, hJ⟩ : ∃ J, p1 % 16 = J := ⟨_, rfl⟩
      rw [hV] at hv0 hv1
      rw [hK] at hk0 hk1
      rw [hJ] at hj0 hj1
      have hi0 : (0 : Int) ≤ i := by omega
      have hi32 : (i : Int) ≤ 32 := by have := ht.lt; have := HN2.out; omega
      have HZ1 : Hid ((Tr.eFrames (Tr.took f i)).sz ≤ 1000) := Tr.ok_sz ht.ok1
      have HZ2 : Hid ((Tr.eFrames (Tr.wrote f i K V)).sz ≤ 1000) := Tr.ok_sz (ht.ok2 hv0 hv1)
      have HWR : Hid (Tr.pFrameWrite (Tr.took f i) (i : Int) K V = (Tr.wrote f i K V, true)) := ht.write hk0 hk1 hv0 hv1
      have hc0 : w5.cell? ⟨gp, 0, none⟩ = some (.int .i64 p0) := HP.out _ _ HP0.out
      have hc1 : w5.cell? ⟨gp, 1, none⟩ = some (.int .i64 p1) := HP.out _ _ HP1.out
      have hc2 : w5.cell? ⟨gp, 2, none⟩ = some (.int .i64 p2) := HP.out _ _ HP2.out
      have HV := Lib.hid hV
      have HK := Lib.hid hK
      have HJ := Lib.hid hJ
      obtain ⟨w4a, hw4a⟩ : ∃ w4a, w4a = w4 := ⟨_, rfl⟩
      have HCW : Hid (∀ W, Below w5.heap.size w5 W → Calls Try.prog 23 #[.agg #[.slice A3 n3 cap3, .slice A4 n4 cap4], .int .i64 i, .int .i64 K, .int .i64 V] W (Tr.RetM (fun us => .tuple #[.agg us.toArray, .bool true]) (Tr.eFrames (Tr.wrote f i K V)) W)) := fun W hb => by
        have h := Tr.impl_FrameWrite (Tr.took f i) _ _ (i : Int) K V W (HO5.out.below hb) (by have := HZ1.out; omega) (by unfold Tr.okI; omega) (by unfold Tr.okI; omega) (by unfold Tr.okI; omega)
        rw [HWR.out] at h
        exact h
      clear ht hp hV hK hJ hw4a
      rw [HPP.out]
      have hg0 : w4.cell? ⟨gp, 0, none⟩ = some (.int .i64 p0) := Tr.cell_below HB_w4.out HP0.out
      have hg1 : w4.cell? ⟨gp, 1, none⟩ = some (.int .i64 p1) := Tr.cell_below HB_w4.out HP1.out
      have hg2 : w4.cell? ⟨gp, 2, none⟩ = some (.int .i64 p2) := Tr.cell_below HB_w4.out HP2.out
      go_upto_region 11 with fail
      rw [HW5.out, HK.out, HJ.out]
      clear hg0 hg1 hg2
      have hrem : p2.tmod 1000 = V := by rw [Int.tmod_eq_emod_of_nonneg hq2.1]; exact HV.out
      have hd : Below w5.heap.size w5 w5.drew := (Below.refl _ _).drew
      have hdA : Below w5.heap.size w5 (w5.alloc (.cells #[.slice none 0 0, .slice none 0 0] 27)).drew := ((Below.refl _ _).alloc (Nat.le_refl _) _).drew
      have HS : Hid (∀ W, Below w5.heap.size w5 W → (W.cell? ⟨B, 0, none⟩ = some (.slice A3 n3 cap3) ∧ W.cell? ⟨B, 1, none⟩ = some (.slice A4 n4 cap4)) ∧ W.cell? ⟨gp, 2, none⟩ = some (.int .i64 p2)) := fun W hb =>
        ⟨⟨Tr.cell_at hb HX5.out 0, Tr.cell_at hb HX5.out 1⟩, Tr.cell_below hb hc2⟩
      go_cut [12, 13] (fun s12 s13 wx => ∃ (D : Nat) (A5 : Option Addr) (n5 cap5 : Nat) (A6 : Option Addr) (n6 cap6 : Nat), s12 = .pointer (some ⟨D, 0, none⟩) ∧ s13 = .bool true ∧ Hid (Tr.Boxed w5 27 (Tr.eFrames (Tr.wrote f i K V)) (.slice A5 n5 cap5) (.slice A6 n6 cap6) D wx))
      case first =>
        go_region_held3 (fun W => (W.cell? ⟨B, 0, none⟩ = some (.slice A3 n3 cap3) ∧ W.cell? ⟨B, 1, none⟩ = some (.slice A4 n4 cap4)) ∧ W.cell? ⟨gp, 2, none⟩ = some (.int .i64 p2)) (first | exact HS.out _ (by assumption) | exact HS.out _ (hbu.alloc hbu.size _) | exact HS.out _ (hbu.setCell (p := ⟨w5.heap.size, 0, none⟩) (Nat.le_refl _) _) | exact HS.out _ ((hbu.setCell (p := ⟨w5.heap.size, 0, none⟩) (Nat.le_refl _) _).setCell (p := ⟨w5.heap.size, 1, none⟩) (Nat.le_refl _) _)) (first | (go_at_call 23; (with_reducible refine (HCW.out _ hdA).mono ?_); rintro eu wu ⟨us, rfl, hou, hbu0⟩; have hou2 := hou; obtain ⟨bsu, hshu, _⟩ := hou2; obtain ⟨A5, n5, cap5, A6, n6, cap6, rfl⟩ := Tr.sinv_Frames hshu; have hbu := Tr.below_step hdA hbu0; have hxo := (hbu0.block w5.heap.size (by simp)).trans (heap_alloc_new w5 (.cells #[.slice none 0 0, .slice none 0 0] 27)); obtain ⟨q0, q1, q2, q3, hbx⟩ := Tr.boxed_old hbu hxo (Nat.le_refl _) hou (by simp)) | (go_at_call 23; (with_reducible refine (HCW.out _ hd).mono ?_); rintro eu wu ⟨us, rfl, hou, hbu0⟩; have hou2 := hou; obtain ⟨bsu, hshu, _⟩ := hou2; obtain ⟨A5, n5, cap5, A6, n6, cap6, rfl⟩ := Tr.sinv_Frames hshu; have hbu := Tr.below_step hd hbu0; have hbx := Lib.hid (Tr.boxed_new (T := 27) hbu hou.rd)))
        all_goals go_wp2_with fail
        all_goals (go_meet; exact ⟨_, _, _, _, _, _, _, rfl, rfl, hbx.out⟩)
      case rest =>
        obtain ⟨D, A5, n5, cap5, A6, n6, cap6, rfl, rfl, HBX⟩ := hcut
        have HB_wc := Lib.hid HBX.out.1
        have HXD := Lib.hid HBX.out.2.1
        have HRX := Lib.hid HBX.out.2.2
        have hx0 : wc.cell? ⟨D, 0, none⟩ = some (.slice A5 n5 cap5) := Tr.cell_of_block HXD.out 0
        have hx1 : wc.cell? ⟨D, 1, none⟩ = some (.slice A6 n6 cap6) := Tr.cell_of_block HXD.out 1
        have hJ : Tr.okI J := by unfold Tr.okI; omega
        have hK : Tr.okI K := by unfold Tr.okI; omega
        have hI : Tr.okI (i : Int) := by unfold Tr.okI; omega
        have h2 : (Tr.eFrames (Tr.wrote f i K V)).sz ≤ 1048576 := by have := HZ2.out; omega
        have h1 : (Tr.eFrames (Tr.took f i)).sz ≤ 1048576 := by have := HZ1.out; omega
        have HRK : Hid (Tr.pFrameRead (Tr.wrote f i K V) (i : Int) K = (V, true)) := by
          show _ = _
          rw [HT.out.read2 hk0 hk1 hv0 hv1 hk0 hk1, if_pos rfl]
        have HRJ : Hid (Tr.pFrameRead (Tr.wrote f i K V) (i : Int) J = (if J = K then V else 0, true)) := HT.out.read2 hk0 hk1 hv0 hv1 hj0 hj1
        have HRO : Hid (Tr.pFrameRead (Tr.took f i) (i : Int) J = (0, true)) := HT.out.read hj0 hj1
        have HC1 : Hid (∀ (q : Int) W, Tr.okI q → Below wc.heap.size wc W → Calls Try.prog 17 #[.agg #[.slice A5 n5 cap5, .slice A6 n6 cap6], .int .i64 i, .int .i64 q] W (Tr.RetP (.tuple #[.int .i64 (Tr.pFrameRead (Tr.wrote f i K V) (i : Int) q).1, .bool (Tr.pFrameRead (Tr.wrote f i K V) (i : Int) q).2]) W)) := fun q W hq hb => Tr.impl_FrameRead (Tr.wrote f i K V) _ _ (i : Int) q W (HRX.out.below hb) h2 hI hq
        have HC2 : Hid (∀ W, Below w5.heap.size w5 W → Calls Try.prog 24 #[.agg #[.slice A3 n3 cap3, .slice A4 n4 cap4], .int .i64 i, .int .i64 J] W (Tr.RetP (.tuple #[.int .i64 (Tr.pFrameRead (Tr.took f i) (i : Int) J).1, .bool (Tr.pFrameRead (Tr.took f i) (i : Int) J).2]) W)) := fun W hb => Tr.spec_FrameRead (Tr.took f i) _ _ (i : Int) J W (HO5.out.below hb) h1 hI hJ
        have HC3 : Hid (∀ W, Below wc.heap.size wc W → Calls Try.prog 20 #[.agg #[.slice A5 n5 cap5, .slice A6 n6 cap6]] W (Tr.TrueP W)) := fun W hb => by
          have h := Tr.impl_FramesOk (Tr.wrote f i K V) _ _ W (HRX.out.below hb) h2
          rw [show Tr.pFramesOk (Tr.wrote f i K V) = true from decide_eq_true (HT.out.ok2 hv0 hv1)] at h
          exact h
        have HJ' := Lib.hid hJ
        have HK' := Lib.hid hK
        clear h1 h2 hI hJ hK hc0 hc1 he0 he1 hd hdA
        go_wp2_with fail
        refine (HC1.out K wc HK'.out (Below.refl _ _)).mono ?_
        rintro e w7 ⟨rfl, hb7⟩
        rw [HRK.out]
        have HB_w7 := Lib.hid hb7
        have h70 : w7.cell? ⟨D, 0, none⟩ = some (.slice A5 n5 cap5) := Tr.cell_at HB_w7.out HXD.out 0
        have h71 : w7.cell? ⟨D, 1, none⟩ = some (.slice A6 n6 cap6) := Tr.cell_at HB_w7.out HXD.out 1
        clear hb7
        go_wp2_with fail
        refine (HC1.out J w7 HJ'.out HB_w7.out).mono ?_
        rintro e w8 ⟨rfl, hb8⟩
        rw [HRJ.out]
        obtain ⟨X, hX⟩ : ∃ X, (if J = K then V else 0) = X := ⟨_, rfl⟩
        rw [hX]
        have HXX := Lib.hid hX
        clear hX
        have HB_w8 := Lib.hid hb8
        have h80 : w8.cell? ⟨B, 0, none⟩ = some (.slice A3 n3 cap3) := Tr.cell_at (Tr.below_step (Tr.below_step HB_wc.out HB_w7.out) HB_w8.out) HX5.out 0
        have h81 : w8.cell? ⟨B, 1, none⟩ = some (.slice A4 n4 cap4) := Tr.cell_at (Tr.below_step (Tr.below_step HB_wc.out HB_w7.out) HB_w8.out) HX5.out 1
        clear hb8
        go_wp2_with fail
        refine (HC2.out w8 (Tr.below_step (Tr.below_step HB_wc.out HB_w7.out) HB_w8.out)).mono ?_
        rintro e w9 ⟨rfl, hb9⟩
        rw [HRO.out]
        have HB_w9 := Lib.hid hb9
        have h90 : w9.cell? ⟨D, 0, none⟩ = some (.slice A5 n5 cap5) := Tr.cell_at (Tr.below_step (Tr.below_step HB_w7.out HB_w8.out) HB_w9.out) HXD.out 0
        have h91 : w9.cell? ⟨D, 1, none⟩ = some (.slice A6 n6 cap6) := Tr.cell_at (Tr.below_step (Tr.below_step HB_w7.out HB_w8.out) HB_w9.out) HXD.out 1
        have h92 : w9.cell? ⟨gp, 2, none⟩ = some (.int .i64 p2) := Tr.cell_below (Tr.below_step (Tr.below_step (Tr.below_step HB_wc.out HB_w7.out) HB_w8.out) HB_w9.out) hc2
        have hv : p2 % 1000 = V := HV.out
        clear hb9 hrem
        by_cases hjk : J = K
        · subst hjk
          go_wp2_with fail
          refine (HC3.out w9 (Tr.below_step (Tr.below_step HB_w7.out HB_w8.out) HB_w9.out)).mono ?_
          rintro e w10 ⟨rfl, hb10⟩
          have HB_w10 := Lib.hid hb10
          clear hb10
          go_wp2
          go_ret
          exact ⟨rfl, Tr.below_step HB5.out (Tr.below_step (Tr.below_step (Tr.below_step (Tr.below_step HB_wc.out HB_w7.out) HB_w8.out) HB_w9.out) HB_w10.out)⟩
        · obtain rfl : X = 0 := by have := HXX.out; rw [if_neg hjk] at this; exact this.symm
          have hne : (J == K) = false := by simp [hjk]
          clear hjk
          go_wp2_with fail
          refine (HC3.out w9 (Tr.below_step (Tr.below_step HB_w7.out HB_w8.out) HB_w9.out)).mono ?_
          rintro e w10 ⟨rfl, hb10⟩
          have HB_w10 := Lib.hid hb10
          clear hb10
          go_wp2
          go_ret
          exact ⟨rfl, Tr.below_step HB5.out (Tr.below_step (Tr.below_step (Tr.below_step (Tr.below_step HB_wc.out HB_w7.out) HB_w8.out) HB_w9.out) HB_w10.out)⟩

/-! ### THE ROW's STEP: WRITTEN OUT: LEAVE IT -/
set_option maxRecDepth 100000 in
theorem lifted (os : Os) (started : os.Started) (H : Type) (enc : TypeId × Value → H) :
    ReturnsInHanded {} Try.checked os 4 .any (Rows.fnFrameCellsSpec.pre6 enc Try.prog Try.f4 Rows.fnFrameCellsRow.domain false) (Rows.fnFrameCellsSpec.post enc Try.prog Try.f4 false true false false) := by
  refine returnsInHanded_of_change (C := Try.checked) own started (by kernel_rfl) Try.func4
    (ChangeSpec.witness6 (enc := enc) (C := Try.checked) false ⟨#[], #[.slice none 0 0], []⟩ 8 (by kernel_rfl) (by kernel_rfl) (by kernel_rfl) (by kernel_rfl)) ?_
  intro W base args ds gs before hval0 hW hcnd _
  have hval : ∀ (j : Nat) t v, Try.f4.params[j]? = some t → args[j]? = some v → Value.okWide Try.prog W .any base t v := hval0
  have hW' := hW
  obtain ⟨p, q, hA0, hV, rfl, hfz, hnd⟩ := hW
  have hA : DataW.TrodAll enc Try.prog W 0 (fun _ => true) true Try.f4.params.toList args.toList ds p := hA0
  rw [Try.params4] at hA hval
  obtain ⟨v0, vs0, d0, ds0, p0, q0, hargs, rfl, rfl, h0, r0⟩ := trodAll_cons hA
  obtain ⟨rfl, rfl, rfl⟩ := trodAll_nil r0
  obtain rfl : args = #[v0] := by cases args; simp_all
  obtain ⟨rfl, rfl⟩ := trodVars_none hV
  obtain ⟨a0, len0, cap0, rfl⟩ := okWide_slice Try.underlying22 (hval 0 22 v0 rfl rfl)
  have k0 := h0
  have lt0 : ∀ x ∈ p0, x.block < W.heap.size := by obtain ⟨m, hm⟩ := k0; exact DataW.trod_lt m _ _ _ hm
  obtain ⟨z0, w0⟩ : ∃ zs, IsRow .u8 W a0 len0 cap0 zs := by
    obtain ⟨fuel, hf⟩ := h0
    rcases open_ints Try.underlying22 Try.underlying5 (by kernel_rfl) hf with ⟨hcs, _⟩ | ⟨x, l, c, zs, hcs, _, hl, hm, hz, _, hcell, hwz⟩
    · simp [Value.cells] at hcs
      obtain ⟨rfl, rfl, rfl⟩ := hcs
      exact ⟨[], .inl ⟨rfl, rfl, rfl, rfl⟩⟩
    · simp [Value.cells] at hcs
      obtain ⟨rfl, rfl, rfl⟩ := hcs
      exact ⟨zs, .inr ⟨_, rfl, hl, hm, by simpa using hz, hcell, hwz⟩⟩
  clear hA0 hval0
  refine (walk a0 len0 cap0 z0 W w0).mono fun e W' ⟨he, bel⟩ => ?_
  subst he
  exact ⟨_, rfl, _, _, _, [], _, [], hW', trodAll_mk1 (shut_bool Try.underlying4 _), (trodAll_cons_mk (Below.trod laidOut (by kernel_rfl) (of_decide_eq_true (by kernel_rfl)) k0 bel lt0) trodAll_mk0), rfl, bel.frame _, fun h => by cases h⟩

theorem over : Rows.fnFrameCellsRow.holds Try.pinned (OpenSpec.ofChange Rows.fnFrameCellsSpec) :=
  OpenClaim.holds_of_wide 4 Try.f4 rfl rfl rfl rfl rfl rfl rfl ⟨rfl, rfl, rfl, rfl, rfl⟩ rfl rfl rfl rfl rfl (by kernel_rfl) Try.func4 (by kernel_rfl)
    (of_decide_eq_true (by kernel_rfl)) (by unfold Func.isWrapper; first | (rw [if_pos (by decide +kernel)]; kernel_rfl) | (rw [if_neg (by decide +kernel)]; exact ⟨rfl, rfl⟩))
    (fun os started H enc _ => lifted os started H enc)

/-- ████ THE STATEMENT ████ -/
theorem proved : Rows.FnFrameCellsSaid := over
#print axioms proved
end Go.Proofs.Ytmajlgnjgnodoaa.fnFrameCells

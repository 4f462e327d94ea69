/- Called with any arguments, the law FnFrames returns true and each argument reads afterwards as before. No condition. -/
import Derived.Test.YtmajlgnjgnodoaaRows
import Derived.Test.YtmajlgnjgnodoaaBig
import Derived.Test.YtmajlgnjgnodoaaDrawFrames
import Derived.Test.YtmajlgnjgnodoaaM05c
import Derived.Test.YtmajlgnjgnodoaaI05e
import Derived.Test.YtmajlgnjgnodoaaTreeLaw
import Derived.Test.YtmajlgnjgnodoaaSame
import Derived.WalkKit
import Derived.ProofKit
import Derived.OpenShut
import Derived.ShutString
import Derived.ChangeOld
import Derived.Below
namespace Go.Proofs.Ytmajlgnjgnodoaa.fnFrames
open Go.ChangeShapes Go.WideShapes Go.ChangeAt Go.RowKit
open Go.ChangeMaps (open_string shut_string)
set_option linter.unusedVariables false

theorem own : ownKnob Try.prog.godebug = none := by kernel_rfl
theorem laidOut : laidOutB Try.prog = true := by kernel_rfl

/-- WHAT THE WALK IS TOLD OF A SLICE OF INTEGERS THAT CAME IN: it is nil; or it leads to a row of 'cap' cells, the numbers 'zs' (the first 'len' are its elements, the rest its spare room), each fitting its kind. -/
def IsRow (k : IntKind) (w : World) (a : Option Addr) (len cap : Nat) (zs : List Int) : Prop :=
  (a = none ∧ len = 0 ∧ cap = 0 ∧ zs = []) ∨
  ∃ x, a = some x ∧ len ≤ cap ∧ cap ≤ maxLen ∧ zs.length = cap ∧ (∀ i, i < zs.length → w.cell? (x.add i) = some (.int k (zs.getD i 0))) ∧ ∀ n ∈ zs, (Lit.int k n).wf = true

/-! ### STEP 1: THE WALK: the Go text returns true, AND WRITES NOTHING THAT WAS THERE: 'Below w.heap.size w w'' (Derived/Below.lean: '.refl', '.alloc', '.drew', '.setCell' at a new block, '.trans'). Open each 'IsRow' by 'rcases' AHEAD of 'go_enter'; part every test ahead of the walk. -/
theorem walk (a0 : Option Addr) (len0 cap0 : Nat) (z0 : List Int) (w : World) (w0 : IsRow .u8 w a0 len0 cap0 z0) :
    Calls Try.prog 3 #[.slice a0 len0 cap0] w fun e w' => e = .returned (.bool true) ∧ Below w.heap.size w w' := by
  by_cases hbig : (1048576 : Int) < len0
  · go_enter Try.func3, Try.ntmps3
    go_wp2_with (go_at_call 13; refine (Dr.bigYes hbig).mono ?_; rintro e w' ⟨rfl, rfl⟩)
    go_ret
    exact ⟨rfl, Below.refl _ _⟩
  · have HR : Hid (Dr.IsRow .u8 w a0 len0 cap0 z0) := w0
    clear w0
    have hlen : (len0 : Int) ≤ 1048576 := by omega
    go_enter Try.func3, Try.ntmps3
    go_wp2_with fail
    refine (Dr.bigNo hlen).mono ?_
    rintro e w' ⟨rfl, rfl⟩
    go_wp2_with fail
    refine (Tr.drawFrames HR.out (by omega)).mono ?_
    rintro e w1 ⟨f, us, hok, rfl, hown, hb1⟩
    have hsh := hown
    obtain ⟨bs, hsh, _⟩ := hsh
    obtain ⟨A, n, cap, A2, n2, cap2, rfl⟩ := Tr.sinv_Frames hsh
    obtain ⟨b0, b1, _, _, hu1⟩ := Tr.parts_Frames hsh
    have hsz := Tr.ok_sz hok
    have hn2 : n2 = f.Used.length := by rw [(Tr.own_cells hu1 (Tr.len_map (E := Tr.eB) (k := 1) (fun _ => rfl))).1, List.length_map]
    have hn2' : (n2 : Int) ≤ 32 := by have := hok.1; have := hok.2.1; omega
    have HN2 := Lib.hid hn2
    have HOK := Lib.hid hok
    have HSZ := Lib.hid hsz
    have HU1 := Lib.hid hu1
    have HRD := Lib.hid hown.rd
    have HB_w1 := Lib.hid hb1
    clear hsh hown hb1 hok hsz hn2 hu1
    obtain ⟨B, hs_B⟩ : ∃ B, w1.heap.size = B := ⟨_, rfl⟩
    have hzo_ := hs_B
    have hx_ : (w1.alloc (.cells #[.slice A n cap, .slice A2 n2 cap2] 27)).heap[B]? = some (.cells #[.slice A n cap, .slice A2 n2 cap2] 27 (0, 0)) := by rw [← hzo_]; exact heap_alloc_new w1 _
    have hb_ : Below w1.heap.size w1 (w1.alloc (.cells #[.slice A n cap, .slice A2 n2 cap2] 27)) := (Below.refl _ _).alloc (Nat.le_refl _) _
    have hz_ : (w1.alloc (.cells #[.slice A n cap, .slice A2 n2 cap2] 27)).heap.size = B + 1 := by simp [hzo_]
    obtain ⟨w2, hw_⟩ : ∃ z, (w1.alloc (.cells #[.slice A n cap, .slice A2 n2 cap2] 27)) = z := ⟨_, rfl⟩
    rw [hw_] at hx_ hb_ hz_
    have HX_w2 := Lib.hid hx_
    have HB_w2 := Lib.hid hb_
    have HW_w2 := Lib.hid hw_
    have hz_w2 := Lib.hid hz_
    clear hx_ hb_ hw_ hz_ hzo_
    go_wp2_with fail
    rw [HW_w2.out]
    refine (Tr.impl_FrameTake f _ _ w2 (HRD.out.below HB_w2.out) (by have := HSZ.out; omega)).mono ?_
    rintro e w3 ⟨us3, rfl, hown3, hb3⟩
    have hsh3 := hown3
    obtain ⟨bs3, hsh3, _⟩ := hsh3
    obtain ⟨A3, n3, cap3, A4, n4, cap4, rfl⟩ := Tr.sinv_Frames hsh3
    have HB_w3 := Lib.hid hb3
    have HRD3 := Lib.hid hown3.rd
    clear hsh3 hown3 hb3
    obtain ⟨C, hs_C⟩ : ∃ B, w3.heap.size = B := ⟨_, rfl⟩
    have hzo_ := hs_C
    have hx_ : (w3.alloc (.cells #[.slice A3 n3 cap3, .slice A4 n4 cap4] 27)).heap[C]? = some (.cells #[.slice A3 n3 cap3, .slice A4 n4 cap4] 27 (0, 0)) := by rw [← hzo_]; exact heap_alloc_new w3 _
    have hb_ : Below w3.heap.size w3 (w3.alloc (.cells #[.slice A3 n3 cap3, .slice A4 n4 cap4] 27)) := (Below.refl _ _).alloc (Nat.le_refl _) _
    have hz_ : (w3.alloc (.cells #[.slice A3 n3 cap3, .slice A4 n4 cap4] 27)).heap.size = C + 1 := by simp [hzo_]
    obtain ⟨w4, hw_⟩ : ∃ z, (w3.alloc (.cells #[.slice A3 n3 cap3, .slice A4 n4 cap4] 27)) = z := ⟨_, rfl⟩
    rw [hw_] at hx_ hb_ hz_
    have HX_w4 := Lib.hid hx_
    have HB_w4 := Lib.hid hb_
    have HW_w4 := Lib.hid hw_
    have hz_w4 := Lib.hid hz_
    clear hx_ hb_ hw_ hz_ hzo_
    have hk0 : w4.cell? ⟨B, 0, none⟩ = some (.slice A n cap) := Tr.cell_at (Tr.below_step HB_w3.out HB_w4.out) HX_w2.out 0
    have hk1 : w4.cell? ⟨B, 1, none⟩ = some (.slice A2 n2 cap2) := Tr.cell_at (Tr.below_step HB_w3.out HB_w4.out) HX_w2.out 1
    have hl4 : B < w4.heap.size ∧ C < w4.heap.size := ⟨by have := lt_of_block HX_w2.out; have := (Tr.below_step HB_w3.out HB_w4.out).size; omega, lt_of_block HX_w4.out⟩
    rcases Tr.take_cases HOK.out with ⟨ht, _, hall⟩ | ⟨i, ht, hp, _⟩
    · have HU := Lib.hid (Tr.used_all HOK.out hall)
      have HP := Lib.hid ht
      have HCU : Hid (∀ W, Below w4.heap.size w4 W → Calls Try.prog 16 #[.agg #[.slice A n cap, .slice A2 n2 cap2]] W (Tr.RetP (.int .i64 n2) W)) := fun W hb => by
        have h := Tr.impl_UsedFrames f _ _ W (HRD.out.below (Tr.below_step (Tr.below_step (Tr.below_step HB_w2.out HB_w3.out) HB_w4.out) hb)) (by have := HSZ.out; omega)
        rw [HU.out, ← HN2.out] at h
        exact h
      have hd : Below w4.heap.size w4 w4.drew := (Below.refl _ _).drew
      have HS : Hid (∀ W, Below w4.heap.size w4 W → W.cell? ⟨B, 0, none⟩ = some (.slice A n cap) ∧ W.cell? ⟨B, 1, none⟩ = some (.slice A2 n2 cap2)) := fun W hb => ⟨Tr.cell_at (Tr.below_step (Tr.below_step HB_w3.out HB_w4.out) hb) HX_w2.out 0, Tr.cell_at (Tr.below_step (Tr.below_step HB_w3.out HB_w4.out) hb) HX_w2.out 1⟩
      clear ht hall
      rw [HP.out]
      go_wp2_with fail
      rw [HW_w4.out]
      go_region_held3 (fun W => W.cell? ⟨B, 0, none⟩ = some (.slice A n cap) ∧ W.cell? ⟨B, 1, none⟩ = some (.slice A2 n2 cap2)) (first | exact HS.out _ hd | exact HS.out _ hbu) ((go_at_call 16; refine (HCU.out _ hd).mono ?_; rintro e wu ⟨rfl, hbu0⟩; have hbu := Tr.below_step hd hbu0))
      go_wp2
      go_ret
      exact ⟨rfl, Tr.below_step (Tr.below_step (Tr.below_step (Tr.below_step HB_w1.out HB_w2.out) HB_w3.out) HB_w4.out) hbu⟩
    · have HT := Lib.hid ht
      have HP := Lib.hid hp
      have hlt := ht.lt
      rw [hp] at HRD3
      obtain ⟨_, k2, _, e2, hq1, hq2, hq3, hA2⟩ := Tr.read_bools (T := 4) HU1.out
      rw [Value.slice.injEq] at e2
      obtain ⟨rfl, rfl, rfl⟩ := e2
      obtain ⟨g2, o2, u, rfl, hu, hcu⟩ := hA2 i (by rw [HN2.out]; exact hlt)
      obtain rfl : u = false := by rw [ht.free] at hu; exact (Option.some.inj hu).symm
      have hcu4 : w4.cell? ⟨g2, o2 + i, none⟩ = some (.bool false) := Tr.cell_below (Tr.below_step (Tr.below_step HB_w2.out HB_w3.out) HB_w4.out) hcu
      have hcu3 : w3.cell? ⟨g2, o2 + i, none⟩ = some (.bool false) := Tr.cell_below (Tr.below_step HB_w2.out HB_w3.out) hcu
      have hk30 : w3.cell? ⟨B, 0, none⟩ = some (.slice A n cap) := Tr.cell_at HB_w3.out HX_w2.out 0
      have hk31 : w3.cell? ⟨B, 1, none⟩ = some (.slice (some ⟨g2, o2, none⟩) n2 cap2) := Tr.cell_at HB_w3.out HX_w2.out 1
      have hl1 : B < C := by have := lt_of_block HX_w2.out; have := HB_w3.out.size; omega
      have hl2 : g2 < C := by have h1 : g2 < w3.heap.size := World.block_lt_of_cell? w3 _ hcu3; omega
      have hi0 : (0 : Int) ≤ i := by omega
      have hi2 : (i : Int) < n2 := by have := HN2.out; omega
      have hi3 : decide ((i : Int) < 0) = false := decide_eq_false (by omega)
      have hi4 : decide ((n2 : Int) ≤ (i : Int)) = false := decide_eq_false (by omega)
      have HRX : Hid (∀ W, Below w4.heap.size w4 W → Tr.Rd W (Tr.eFrames (Tr.took f i)) [.slice A3 n3 cap3, .slice A4 n4 cap4]) := fun W hb => HRD3.out.below (Tr.below_step HB_w4.out hb)
      have HZX : Hid ((Tr.eFrames (Tr.took f i)).sz ≤ 1000) := Tr.ok_sz ht.ok1
      have hkc0 : w4.cell? ⟨C, 0, none⟩ = some (.slice A3 n3 cap3) := Tr.cell_at (Below.refl _ _) HX_w4.out 0
      have hkc1 : w4.cell? ⟨C, 1, none⟩ = some (.slice A4 n4 cap4) := Tr.cell_at (Below.refl _ _) HX_w4.out 1
      clear ht hp hlt hA2 hcu hu hq1 hq2 hq3
      rw [HP.out]
      go_wp2_with fail
      rw [HW_w4.out]
      refine (Tr.impl_FrameRead (Tr.took f i) _ _ (i : Int) 5 w4 (HRX.out _ (Below.refl _ _)) (by have := HZX.out; omega) (by unfold Tr.okI; omega) (by unfold Tr.okI; omega)).mono ?_
      rintro e w5 ⟨rfl, hb5⟩
      rw [HT.out.read (by omega) (by omega)]
      have HB_w5 := Lib.hid hb5
      have hk5 : w5.cell? ⟨C, 0, none⟩ = some (.slice A3 n3 cap3) := Tr.cell_at HB_w5.out HX_w4.out 0
      have hk51 : w5.cell? ⟨C, 1, none⟩ = some (.slice A4 n4 cap4) := Tr.cell_at HB_w5.out HX_w4.out 1
      clear hb5
      go_wp2_with fail
      refine (Tr.impl_FrameGive (Tr.took f i) _ _ (i : Int) w5 (HRX.out _ HB_w5.out) (by have := HZX.out; omega) (by unfold Tr.okI; omega)).mono ?_
      rintro e w6 ⟨us6, rfl, hown6, hb6⟩
      rw [HT.out.give] at hown6
      have hsh6 := hown6
      obtain ⟨bs6, hsh6, _⟩ := hsh6
      obtain ⟨A5, n5, cap5, A6, n6, cap6, rfl⟩ := Tr.sinv_Frames hsh6
      have HB_w6 := Lib.hid hb6
      have HRD6 := Lib.hid hown6.rd
      rw [HT.out.give]
      clear hsh6 hown6 hb6
      obtain ⟨D, hs_D⟩ : ∃ B, w6.heap.size = B := ⟨_, rfl⟩
      have hzo_ := hs_D
      have hx_ : (w6.alloc (.cells #[.slice A5 n5 cap5, .slice A6 n6 cap6] 27)).heap[D]? = some (.cells #[.slice A5 n5 cap5, .slice A6 n6 cap6] 27 (0, 0)) := by rw [← hzo_]; exact heap_alloc_new w6 _
      have hb_ : Below w6.heap.size w6 (w6.alloc (.cells #[.slice A5 n5 cap5, .slice A6 n6 cap6] 27)) := (Below.refl _ _).alloc (Nat.le_refl _) _
      have hz_ : (w6.alloc (.cells #[.slice A5 n5 cap5, .slice A6 n6 cap6] 27)).heap.size = D + 1 := by simp [hzo_]
      obtain ⟨w7, hw_⟩ : ∃ z, (w6.alloc (.cells #[.slice A5 n5 cap5, .slice A6 n6 cap6] 27)) = z := ⟨_, rfl⟩
      rw [hw_] at hx_ hb_ hz_
      have HX_w7 := Lib.hid hx_
      have HB_w7 := Lib.hid hb_
      have HW_w7 := Lib.hid hw_
      have hz_w7 := Lib.hid hz_
      clear hx_ hb_ hw_ hz_ hzo_
      obtain ⟨U, hU⟩ : ∃ U, Tr.pUsedFrames f = U := ⟨_, rfl⟩
      have hUb := Tr.used_le f
      rw [hU] at hUb
      have HUX : Hid (Tr.pUsedFrames (Tr.took f i) = U + 1) := by rw [← hU]; exact HT.out.count
      have HCS : Hid (∀ W, Below w7.heap.size w7 W → Calls Try.prog 19 #[.agg #[.slice A5 n5 cap5, .slice A6 n6 cap6], .agg #[.slice A n cap, .slice (some ⟨g2, o2, none⟩) n2 cap2]] W (Tr.TrueP W)) := fun W hb => Tr.h_sameFrames f _ _ _ _ W (HRD6.out.below (Tr.below_step HB_w7.out hb)) (HRD.out.below (Tr.below_step (Tr.below_step (Tr.below_step (Tr.below_step (Tr.below_step (Tr.below_step HB_w2.out HB_w3.out) HB_w4.out) HB_w5.out) HB_w6.out) HB_w7.out) hb)) (by have := HSZ.out; omega)
      have HCO : Hid (∀ W, Below w7.heap.size w7 W → Calls Try.prog 20 #[.agg #[.slice A3 n3 cap3, .slice A4 n4 cap4]] W (Tr.TrueP W)) := fun W hb => by
        have h := Tr.impl_FramesOk (Tr.took f i) _ _ W (HRX.out W (Tr.below_step (Tr.below_step (Tr.below_step HB_w5.out HB_w6.out) HB_w7.out) hb)) (by have := HZX.out; omega)
        rw [show Tr.pFramesOk (Tr.took f i) = true from decide_eq_true HT.out.ok1] at h
        exact h
      have HCX : Hid (∀ W, Below w7.heap.size w7 W → Calls Try.prog 16 #[.agg #[.slice A3 n3 cap3, .slice A4 n4 cap4]] W (Tr.RetP (.int .i64 (U + 1)) W)) := fun W hb => by
        have h := Tr.impl_UsedFrames (Tr.took f i) _ _ W (HRX.out W (Tr.below_step (Tr.below_step (Tr.below_step HB_w5.out HB_w6.out) HB_w7.out) hb)) (by have := HZX.out; omega)
        rw [HUX.out] at h
        exact h
      have HCF : Hid (∀ W, Below w7.heap.size w7 W → Calls Try.prog 16 #[.agg #[.slice A n cap, .slice (some ⟨g2, o2, none⟩) n2 cap2]] W (Tr.RetP (.int .i64 U) W)) := fun W hb => by
        have h := Tr.impl_UsedFrames f _ _ W (HRD.out.below (Tr.below_step (Tr.below_step (Tr.below_step (Tr.below_step (Tr.below_step (Tr.below_step HB_w2.out HB_w3.out) HB_w4.out) HB_w5.out) HB_w6.out) HB_w7.out) hb)) (by have := HSZ.out; omega)
        rw [hU] at h
        exact h
      have hU2 : U ≤ 32 := by have := HN2.out; omega
      have hd : Below w7.heap.size w7 w7.drew := (Below.refl _ _).drew
      have HS : Hid (∀ W, Below w7.heap.size w7 W → (W.cell? ⟨B, 0, none⟩ = some (.slice A n cap) ∧ W.cell? ⟨B, 1, none⟩ = some (.slice (some ⟨g2, o2, none⟩) n2 cap2)) ∧ (W.cell? ⟨C, 0, none⟩ = some (.slice A3 n3 cap3) ∧ W.cell? ⟨C, 1, none⟩ = some (.slice A4 n4 cap4)) ∧ W.cell? ⟨D, 0, none⟩ = some (.slice A5 n5 cap5) ∧ W.cell? ⟨D, 1, none⟩ = some (.slice A6 n6 cap6)) := fun W hb =>
        ⟨⟨Tr.cell_at (Tr.below_step (Tr.below_step (Tr.below_step (Tr.below_step (Tr.below_step HB_w3.out HB_w4.out) HB_w5.out) HB_w6.out) HB_w7.out) hb) HX_w2.out 0, Tr.cell_at (Tr.below_step (Tr.below_step (Tr.below_step (Tr.below_step (Tr.below_step HB_w3.out HB_w4.out) HB_w5.out) HB_w6.out) HB_w7.out) hb) HX_w2.out 1⟩, ⟨Tr.cell_at (Tr.below_step (Tr.below_step (Tr.below_step HB_w5.out HB_w6.out) HB_w7.out) hb) HX_w4.out 0, Tr.cell_at (Tr.below_step (Tr.below_step (Tr.below_step HB_w5.out HB_w6.out) HB_w7.out) hb) HX_w4.out 1⟩, Tr.cell_at hb HX_w7.out 0, Tr.cell_at hb HX_w7.out 1⟩
      have hwU : IntKind.i64.wrap (U + 1) = U + 1 := by rw [IntKind.wrap_i64]; omega
      clear hk30 hk31 hcu3 hU hUb hk5 hk51 hcu4 hkc0 hkc1 hk0 hk1
      go_wp2_with fail
      rw [HW_w7.out]
      go_region_held3 (fun W => (W.cell? ⟨B, 0, none⟩ = some (.slice A n cap) ∧ W.cell? ⟨B, 1, none⟩ = some (.slice (some ⟨g2, o2, none⟩) n2 cap2)) ∧ (W.cell? ⟨C, 0, none⟩ = some (.slice A3 n3 cap3) ∧ W.cell? ⟨C, 1, none⟩ = some (.slice A4 n4 cap4)) ∧ W.cell? ⟨D, 0, none⟩ = some (.slice A5 n5 cap5) ∧ W.cell? ⟨D, 1, none⟩ = some (.slice A6 n6 cap6)) (exact HS.out _ (by assumption)) (first | (go_at_call 19; refine (HCS.out _ (by assumption)).mono ?_; rintro eu wu ⟨rfl, hbu0⟩; have hbu := Tr.below_step ‹Below w7.heap.size w7 _› hbu0) | (go_at_call 20; refine (HCO.out _ (by assumption)).mono ?_; rintro eu wu ⟨rfl, hbu0⟩; have hbu := Tr.below_step ‹Below w7.heap.size w7 _› hbu0) | (go_at_call 16; (with_reducible refine (HCX.out _ (by assumption)).mono ?_); rintro eu wu ⟨rfl, hbu0⟩; have hbu := Tr.below_step ‹Below w7.heap.size w7 _› hbu0) | (go_at_call 16; (with_reducible refine (HCF.out _ (by assumption)).mono ?_); rintro eu wu ⟨rfl, hbu0⟩; have hbu := Tr.below_step ‹Below w7.heap.size w7 _› hbu0))
      go_wp2
      go_ret
      exact ⟨rfl, Tr.below_step (Tr.below_step (Tr.below_step (Tr.below_step (Tr.below_step (Tr.below_step (Tr.below_step HB_w1.out HB_w2.out) HB_w3.out) HB_w4.out) HB_w5.out) HB_w6.out) HB_w7.out) hbu⟩

/-! ### THE ROW's STEP: WRITTEN OUT: LEAVE IT -/
set_option maxRecDepth 100000 in
theorem lifted (os : Os) (started : os.Started) (H : Type) (enc : TypeId × Value → H) :
    ReturnsInHanded {} Try.checked os 3 .any (Rows.fnFramesSpec.pre6 enc Try.prog Try.f3 Rows.fnFramesRow.domain false) (Rows.fnFramesSpec.post enc Try.prog Try.f3 false true false false) := by
  refine returnsInHanded_of_change (C := Try.checked) own started (by kernel_rfl) Try.func3
    (ChangeSpec.witness6 (enc := enc) (C := Try.checked) false ⟨#[], #[.slice none 0 0], []⟩ 8 (by kernel_rfl) (by kernel_rfl) (by kernel_rfl) (by kernel_rfl)) ?_
  intro W base args ds gs before hval0 hW hcnd _
  have hval : ∀ (j : Nat) t v, Try.f3.params[j]? = some t → args[j]? = some v → Value.okWide Try.prog W .any base t v := hval0
  have hW' := hW
  obtain ⟨p, q, hA0, hV, rfl, hfz, hnd⟩ := hW
  have hA : DataW.TrodAll enc Try.prog W 0 (fun _ => true) true Try.f3.params.toList args.toList ds p := hA0
  rw [Try.params3] at hA hval
  obtain ⟨v0, vs0, d0, ds0, p0, q0, hargs, rfl, rfl, h0, r0⟩ := trodAll_cons hA
  obtain ⟨rfl, rfl, rfl⟩ := trodAll_nil r0
  obtain rfl : args = #[v0] := by cases args; simp_all
  obtain ⟨rfl, rfl⟩ := trodVars_none hV
  obtain ⟨a0, len0, cap0, rfl⟩ := okWide_slice Try.underlying22 (hval 0 22 v0 rfl rfl)
  have k0 := h0
  have lt0 : ∀ x ∈ p0, x.block < W.heap.size := by obtain ⟨m, hm⟩ := k0; exact DataW.trod_lt m _ _ _ hm
  obtain ⟨z0, w0⟩ : ∃ zs, IsRow .u8 W a0 len0 cap0 zs := by
    obtain ⟨fuel, hf⟩ := h0
    rcases open_ints Try.underlying22 Try.underlying5 (by kernel_rfl) hf with ⟨hcs, _⟩ | ⟨x, l, c, zs, hcs, _, hl, hm, hz, _, hcell, hwz⟩
    · simp [Value.cells] at hcs
      obtain ⟨rfl, rfl, rfl⟩ := hcs
      exact ⟨[], .inl ⟨rfl, rfl, rfl, rfl⟩⟩
    · simp [Value.cells] at hcs
      obtain ⟨rfl, rfl, rfl⟩ := hcs
      exact ⟨zs, .inr ⟨_, rfl, hl, hm, by simpa using hz, hcell, hwz⟩⟩
  clear hA0 hval0
  refine (walk a0 len0 cap0 z0 W w0).mono fun e W' ⟨he, bel⟩ => ?_
  subst he
  exact ⟨_, rfl, _, _, _, [], _, [], hW', trodAll_mk1 (shut_bool Try.underlying4 _), (trodAll_cons_mk (Below.trod laidOut (by kernel_rfl) (of_decide_eq_true (by kernel_rfl)) k0 bel lt0) trodAll_mk0), rfl, bel.frame _, fun h => by cases h⟩

theorem over : Rows.fnFramesRow.holds Try.pinned (OpenSpec.ofChange Rows.fnFramesSpec) :=
  OpenClaim.holds_of_wide 3 Try.f3 rfl rfl rfl rfl rfl rfl rfl ⟨rfl, rfl, rfl, rfl, rfl⟩ rfl rfl rfl rfl rfl (by kernel_rfl) Try.func3 (by kernel_rfl)
    (of_decide_eq_true (by kernel_rfl)) (by unfold Func.isWrapper; first | (rw [if_pos (by decide +kernel)]; kernel_rfl) | (rw [if_neg (by decide +kernel)]; exact ⟨rfl, rfl⟩))
    (fun os started H enc _ => lifted os started H enc)

/-- ████ THE STATEMENT ████ -/
theorem proved : Rows.FnFramesSaid := over
#print axioms proved
end Go.Proofs.Ytmajlgnjgnodoaa.fnFrames

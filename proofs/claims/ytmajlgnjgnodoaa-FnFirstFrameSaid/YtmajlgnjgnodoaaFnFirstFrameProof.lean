/- Called with any arguments, the law FnFirstFrame returns true and each argument reads afterwards as before. No condition. -/
import Derived.Test.YtmajlgnjgnodoaaRows
import Derived.Test.YtmajlgnjgnodoaaBig
import Derived.Test.YtmajlgnjgnodoaaDrawFrames
import Derived.Test.YtmajlgnjgnodoaaM05c
import Derived.Test.YtmajlgnjgnodoaaI05e
import Derived.Test.YtmajlgnjgnodoaaTreeLaw
import Derived.WalkKit
import Derived.ProofKit
import Derived.OpenShut
import Derived.ShutString
import Derived.ChangeOld
import Derived.Below
namespace Go.Proofs.Ytmajlgnjgnodoaa.fnFirstFrame
open Go.ChangeShapes Go.WideShapes Go.ChangeAt Go.RowKit
open Go.ChangeMaps (open_string shut_string)
set_option linter.unusedVariables false

theorem own : ownKnob Try.prog.godebug = none := by kernel_rfl
theorem laidOut : laidOutB Try.prog = true := by kernel_rfl

/-- WHAT THE WALK IS TOLD OF A SLICE OF INTEGERS THAT CAME IN: it is nil; or it leads to a row of 'cap' cells, the numbers 'zs' (the first 'len' are its elements, the rest its spare room), each fitting its kind. -/
def IsRow (k : IntKind) (w : World) (a : Option Addr) (len cap : Nat) (zs : List Int) : Prop :=
  (a = none ∧ len = 0 ∧ cap = 0 ∧ zs = []) ∨
  ∃ x, a = some x ∧ len ≤ cap ∧ cap ≤ maxLen ∧ zs.length = cap ∧ (∀ i, i < zs.length → w.cell? (x.add i) = some (.int k (zs.getD i 0))) ∧ ∀ n ∈ zs, (Lit.int k n).wf = true

/-! ### STEP 1: THE WALK: the Go text returns true, AND WRITES NOTHING THAT WAS THERE: 'Below w.heap.size w w'' (Derived/Below.lean: '.refl', '.alloc', '.drew', '.setCell' at a new block, '.trans'). Open each 'IsRow' by 'rcases' AHEAD of 'go_enter'; part every test ahead of the walk. -/
theorem walk (a0 : Option Addr) (len0 cap0 : Nat) (z0 : List Int) (w : World) (w0 : IsRow .u8 w a0 len0 cap0 z0) :
    Calls Try.prog 5 #[.slice a0 len0 cap0] w fun e w' => e = .returned (.bool true) ∧ Below w.heap.size w w' := by
  by_cases hbig : (1048576 : Int) < len0
  · go_enter Try.func5, Try.ntmps5
    go_wp2_with (go_at_call 13; refine (Dr.bigYes hbig).mono ?_; rintro e w' ⟨rfl, rfl⟩)
    go_ret
    exact ⟨rfl, Below.refl _ _⟩
  · have HR : Hid (Dr.IsRow .u8 w a0 len0 cap0 z0) := w0
    clear w0
    have hlen : (len0 : Int) ≤ 1048576 := by omega
    go_enter Try.func5, Try.ntmps5
    go_wp2_with fail
    refine (Dr.bigNo hlen).mono ?_
    rintro e w' ⟨rfl, rfl⟩
    go_wp2_with fail
    refine (Tr.drawFrames HR.out (by omega)).mono ?_
    rintro e w1 ⟨f, us, hok, rfl, hown, hb1⟩
    have hsh := hown
    obtain ⟨bs, hsh, _⟩ := hsh
    obtain ⟨A, n, cap, A2, n2, cap2, rfl⟩ := Tr.sinv_Frames hsh
    obtain ⟨b0, b1, _, _, hu1⟩ := Tr.parts_Frames hsh
    have hsz := Tr.ok_sz hok
    have hn2 : n2 = f.Used.length := by rw [(Tr.own_cells hu1 (Tr.len_map (E := Tr.eB) (k := 1) (fun _ => rfl))).1, List.length_map]
    have hn2' : (n2 : Int) ≤ 32 := by have := hok.1; have := hok.2.1; omega
    have HN2 := Lib.hid hn2
    have HOK := Lib.hid hok
    have HSZ := Lib.hid hsz
    have HU1 := Lib.hid hu1
    have HRD := Lib.hid hown.rd
    have HB_w1 := Lib.hid hb1
    clear hsh hown hb1 hok hsz hn2 hu1
    obtain ⟨B, hs_B⟩ : ∃ B, w1.heap.size = B := ⟨_, rfl⟩
    have hzo_ := hs_B
    have hx_ : (w1.alloc (.cells #[.slice A n cap, .slice A2 n2 cap2] 27)).heap[B]? = some (.cells #[.slice A n cap, .slice A2 n2 cap2] 27 (0, 0)) := by rw [← hzo_]; exact heap_alloc_new w1 _
    have hb_ : Below w1.heap.size w1 (w1.alloc (.cells #[.slice A n cap, .slice A2 n2 cap2] 27)) := (Below.refl _ _).alloc (Nat.le_refl _) _
    have hz_ : (w1.alloc (.cells #[.slice A n cap, .slice A2 n2 cap2] 27)).heap.size = B + 1 := by simp [hzo_]
    obtain ⟨w2, hw_⟩ : ∃ z, (w1.alloc (.cells #[.slice A n cap, .slice A2 n2 cap2] 27)) = z := ⟨_, rfl⟩
    rw [hw_] at hx_ hb_ hz_
    have HX_w2 := Lib.hid hx_
    have HB_w2 := Lib.hid hb_
    have HW_w2 := Lib.hid hw_
    have hz_w2 := Lib.hid hz_
    clear hx_ hb_ hw_ hz_ hzo_
    go_wp2_with fail
    rw [HW_w2.out]
    refine (Tr.impl_FrameTake f _ _ w2 (HRD.out.below HB_w2.out) (by have := HSZ.out; omega)).mono ?_
    rintro e w3 ⟨us3, rfl, hown3, hb3⟩
    have hsh3 := hown3
    obtain ⟨bs3, hsh3, _⟩ := hsh3
    obtain ⟨A3, n3, cap3, A4, n4, cap4, rfl⟩ := Tr.sinv_Frames hsh3
    have HB_w3 := Lib.hid hb3
    have HRD3 := Lib.hid hown3.rd
    clear hsh3 hown3 hb3
    obtain ⟨C, hs_C⟩ : ∃ B, w3.heap.size = B := ⟨_, rfl⟩
    have hzo_ := hs_C
    have hx_ : (w3.alloc (.cells #[.slice A3 n3 cap3, .slice A4 n4 cap4] 27)).heap[C]? = some (.cells #[.slice A3 n3 cap3, .slice A4 n4 cap4] 27 (0, 0)) := by rw [← hzo_]; exact heap_alloc_new w3 _
    have hb_ : Below w3.heap.size w3 (w3.alloc (.cells #[.slice A3 n3 cap3, .slice A4 n4 cap4] 27)) := (Below.refl _ _).alloc (Nat.le_refl _) _
    have hz_ : (w3.alloc (.cells #[.slice A3 n3 cap3, .slice A4 n4 cap4] 27)).heap.size = C + 1 := by simp [hzo_]
    obtain ⟨w4, hw_⟩ : ∃ z, (w3.alloc (.cells #[.slice A3 n3 cap3, .slice A4 n4 cap4] 27)) = z := ⟨_, rfl⟩
    rw [hw_] at hx_ hb_ hz_
    have HX_w4 := Lib.hid hx_
    have HB_w4 := Lib.hid hb_
    have HW_w4 := Lib.hid hw_
    have hz_w4 := Lib.hid hz_
    clear hx_ hb_ hw_ hz_ hzo_
    have hk0 : w4.cell? ⟨B, 0, none⟩ = some (.slice A n cap) := Tr.cell_at (Tr.below_step HB_w3.out HB_w4.out) HX_w2.out 0
    have hk1 : w4.cell? ⟨B, 1, none⟩ = some (.slice A2 n2 cap2) := Tr.cell_at (Tr.below_step HB_w3.out HB_w4.out) HX_w2.out 1
    have hl4 : B < w4.heap.size ∧ C < w4.heap.size := ⟨by have := lt_of_block HX_w2.out; have := (Tr.below_step HB_w3.out HB_w4.out).size; omega, lt_of_block HX_w4.out⟩
    obtain ⟨_, k2, _, e2, hq1, hq2, hq3, hA2⟩ := Tr.read_bools (T := 4) HU1.out
    rw [Value.slice.injEq] at e2
    obtain ⟨rfl, rfl, rfl⟩ := e2
    have HA2 := Lib.hid hA2
    clear hA2 hq1 hq2 hq3
    have hk30 : w3.cell? ⟨B, 0, none⟩ = some (.slice A n cap) := Tr.cell_at HB_w3.out HX_w2.out 0
    have hk31 : w3.cell? ⟨B, 1, none⟩ = some (.slice A2 n2 cap2) := Tr.cell_at HB_w3.out HX_w2.out 1
    have hl1 : B < C := by have := lt_of_block HX_w2.out; have := HB_w3.out.size; omega
    rcases Tr.take_cases HOK.out with ⟨ht, _, hall⟩ | ⟨i, ht, hp, hbef⟩
    · have HU := Lib.hid (Tr.used_all HOK.out hall)
      have HP := Lib.hid ht
      have HALL := Lib.hid hall
      clear ht hall
      rw [HP.out]
      go_wp2_with fail
      rw [HW_w4.out]
      go_loop [7] (fun c => ∃ k : Nat, k ≤ n2 ∧ c = .int .i64 k) (fun c => n2 - (intOf c).toNat)
      case atStart => exact ⟨0, Nat.zero_le _, rfl⟩
      case round =>
        obtain ⟨k, hk, rfl⟩ := hrel
        by_cases hlt : (k : Int) < n2
        · have hki : (0 : Int) ≤ k := by omega
          obtain ⟨g2, o2, u, rfl, hu, hcu⟩ := HA2.out k (by omega)
          obtain rfl : u = true := HALL.out u (List.mem_of_getElem? hu)
          have hcu4 : w4.cell? ⟨g2, o2 + k, none⟩ = some (.bool true) := Tr.cell_below (Tr.below_step (Tr.below_step HB_w2.out HB_w3.out) HB_w4.out) hcu
          clear hu hcu
          go_wp2
          go_round
          case rel => exact ⟨k + 1, by omega, by go_num⟩
          case measure => simp [intOf]; omega
        · obtain rfl : n2 = k := by omega
          have HCU : Hid (∀ W, Below w4.heap.size w4 W → Calls Try.prog 16 #[.agg #[.slice A n cap, .slice A2 n2 cap2]] W (Tr.RetP (.int .i64 n2) W)) := fun W hb => by
            have h := Tr.impl_UsedFrames f _ _ W (HRD.out.below (Tr.below_step (Tr.below_step (Tr.below_step HB_w2.out HB_w3.out) HB_w4.out) hb)) (by have := HSZ.out; omega)
            rw [HU.out, ← HN2.out] at h
            exact h
          have hd : Below w4.heap.size w4 w4.drew := (Below.refl _ _).drew
          have HS : Hid (∀ W, Below w4.heap.size w4 W → W.cell? ⟨B, 0, none⟩ = some (.slice A n cap) ∧ W.cell? ⟨B, 1, none⟩ = some (.slice A2 n2 cap2)) := fun W hb => ⟨Tr.cell_at (Tr.below_step (Tr.below_step HB_w3.out HB_w4.out) hb) HX_w2.out 0, Tr.cell_at (Tr.below_step (Tr.below_step HB_w3.out HB_w4.out) hb) HX_w2.out 1⟩
          go_wp2_with fail
          go_region_held3 (fun W => W.cell? ⟨B, 0, none⟩ = some (.slice A n cap) ∧ W.cell? ⟨B, 1, none⟩ = some (.slice A2 n2 cap2)) (exact HS.out _ (by assumption)) ((go_at_call 16; refine (HCU.out _ (by assumption)).mono ?_; rintro e wu ⟨rfl, hbu0⟩; have hbu := Tr.below_step ‹Below w4.heap.size w4 _› hbu0))
          go_wp2
          go_ret
          exact ⟨rfl, Tr.below_step (Tr.below_step (Tr.below_step (Tr.below_step HB_w1.out HB_w2.out) HB_w3.out) HB_w4.out) hbu⟩
    · rw [hp] at HRD3
      have hlt := ht.lt
      obtain ⟨bs4, hr4⟩ := HRD3.out
      obtain ⟨_, b4, _, _, hu4⟩ := Tr.parts_Frames hr4
      obtain ⟨_, k4, _, e4, hq4, hq5, hq6, hA4⟩ := Tr.read_bools (T := 4) hu4
      rw [Value.slice.injEq] at e4
      obtain ⟨rfl, rfl, rfl⟩ := e4
      obtain rfl : n4 = n2 := by
        rw [hq4, HN2.out]
        show (f.Used.set i true).length = _
        rw [List.length_set]
      obtain ⟨g4, o4, u4', rfl, hu5, hcu5⟩ := hA4 i (by rw [HN2.out]; exact hlt)
      obtain rfl : u4' = true := by
        have h : (f.Used.set i true)[i]? = some u4' := hu5
        rw [List.getElem?_set_self hlt] at h
        exact (Option.some.inj h).symm
      have hcx4 : w4.cell? ⟨g4, o4 + i, none⟩ = some (.bool true) := Tr.cell_below HB_w4.out hcu5
      have HBEF := Lib.hid hbef
      have HT := Lib.hid ht
      have HP := Lib.hid hp
      have hi2 : (i : Int) < n4 := by have := HN2.out; omega
      clear hp ht hbef hlt hr4 hu4 hq4 hq5 hq6 hA4 hu5 hcu5
      rw [HP.out]
      go_wp2_with fail
      rw [HW_w4.out]
      go_loop [7] (fun c => ∃ k : Nat, k ≤ i ∧ c = .int .i64 k) (fun c => i - (intOf c).toNat)
      case atStart => exact ⟨0, Nat.zero_le _, rfl⟩
      case round =>
        obtain ⟨k, hk, rfl⟩ := hrel
        have hki : (0 : Int) ≤ k := by omega
        have hkn : (k : Int) < n4 := by omega
        have hkc1 : w4.cell? ⟨C, 1, none⟩ = some (.slice (some ⟨g4, o4, none⟩) n4 cap4) := Tr.cell_at (Below.refl _ _) HX_w4.out 1
        by_cases hlt : k < i
        · obtain ⟨g2, o2, u, rfl, hu, hcu⟩ := HA2.out k (by omega)
          obtain rfl : u = true := HBEF.out u (List.mem_of_getElem? (i := k) (by rw [List.getElem?_take, if_pos hlt]; exact hu))
          have hcu4 : w4.cell? ⟨g2, o2 + k, none⟩ = some (.bool true) := Tr.cell_below (Tr.below_step (Tr.below_step HB_w2.out HB_w3.out) HB_w4.out) hcu
          clear hu hcu
          go_wp2
          go_round
          case rel => exact ⟨k + 1, by omega, by go_num⟩
          case measure => simp [intOf]; omega
        · obtain rfl : i = k := by omega
          obtain ⟨g2, o2, u, rfl, hu, hcu⟩ := HA2.out i (by omega)
          obtain rfl : u = false := by rw [HT.out.free] at hu; exact (Option.some.inj hu).symm
          have hcu4 : w4.cell? ⟨g2, o2 + i, none⟩ = some (.bool false) := Tr.cell_below (Tr.below_step (Tr.below_step HB_w2.out HB_w3.out) HB_w4.out) hcu
          clear hu hcu
          go_wp2
          go_ret
          exact ⟨rfl, (Tr.below_step (Tr.below_step (Tr.below_step HB_w1.out HB_w2.out) HB_w3.out) HB_w4.out)⟩

/-! ### THE ROW's STEP: WRITTEN OUT: LEAVE IT -/
set_option maxRecDepth 100000 in
theorem lifted (os : Os) (started : os.Started) (H : Type) (enc : TypeId × Value → H) :
    ReturnsInHanded {} Try.checked os 5 .any (Rows.fnFirstFrameSpec.pre6 enc Try.prog Try.f5 Rows.fnFirstFrameRow.domain false) (Rows.fnFirstFrameSpec.post enc Try.prog Try.f5 false true false false) := by
  refine returnsInHanded_of_change (C := Try.checked) own started (by kernel_rfl) Try.func5
    (ChangeSpec.witness6 (enc := enc) (C := Try.checked) false ⟨#[], #[.slice none 0 0], []⟩ 8 (by kernel_rfl) (by kernel_rfl) (by kernel_rfl) (by kernel_rfl)) ?_
  intro W base args ds gs before hval0 hW hcnd _
  have hval : ∀ (j : Nat) t v, Try.f5.params[j]? = some t → args[j]? = some v → Value.okWide Try.prog W .any base t v := hval0
  have hW' := hW
  obtain ⟨p, q, hA0, hV, rfl, hfz, hnd⟩ := hW
  have hA : DataW.TrodAll enc Try.prog W 0 (fun _ => true) true Try.f5.params.toList args.toList ds p := hA0
  rw [Try.params5] at hA hval
  obtain ⟨v0, vs0, d0, ds0, p0, q0, hargs, rfl, rfl, h0, r0⟩ := trodAll_cons hA
  obtain ⟨rfl, rfl, rfl⟩ := trodAll_nil r0
  obtain rfl : args = #[v0] := by cases args; simp_all
  obtain ⟨rfl, rfl⟩ := trodVars_none hV
  obtain ⟨a0, len0, cap0, rfl⟩ := okWide_slice Try.underlying22 (hval 0 22 v0 rfl rfl)
  have k0 := h0
  have lt0 : ∀ x ∈ p0, x.block < W.heap.size := by obtain ⟨m, hm⟩ := k0; exact DataW.trod_lt m _ _ _ hm
  obtain ⟨z0, w0⟩ : ∃ zs, IsRow .u8 W a0 len0 cap0 zs := by
    obtain ⟨fuel, hf⟩ := h0
    rcases open_ints Try.underlying22 Try.underlying5 (by kernel_rfl) hf with ⟨hcs, _⟩ | ⟨x, l, c, zs, hcs, _, hl, hm, hz, _, hcell, hwz⟩
    · simp [Value.cells] at hcs
      obtain ⟨rfl, rfl, rfl⟩ := hcs
      exact ⟨[], .inl ⟨rfl, rfl, rfl, rfl⟩⟩
    · simp [Value.cells] at hcs
      obtain ⟨rfl, rfl, rfl⟩ := hcs
      exact ⟨zs, .inr ⟨_, rfl, hl, hm, by simpa using hz, hcell, hwz⟩⟩
  clear hA0 hval0
  refine (walk a0 len0 cap0 z0 W w0).mono fun e W' ⟨he, bel⟩ => ?_
  subst he
  exact ⟨_, rfl, _, _, _, [], _, [], hW', trodAll_mk1 (shut_bool Try.underlying4 _), (trodAll_cons_mk (Below.trod laidOut (by kernel_rfl) (of_decide_eq_true (by kernel_rfl)) k0 bel lt0) trodAll_mk0), rfl, bel.frame _, fun h => by cases h⟩

theorem over : Rows.fnFirstFrameRow.holds Try.pinned (OpenSpec.ofChange Rows.fnFirstFrameSpec) :=
  OpenClaim.holds_of_wide 5 Try.f5 rfl rfl rfl rfl rfl rfl rfl ⟨rfl, rfl, rfl, rfl, rfl⟩ rfl rfl rfl rfl rfl (by kernel_rfl) Try.func5 (by kernel_rfl)
    (of_decide_eq_true (by kernel_rfl)) (by unfold Func.isWrapper; first | (rw [if_pos (by decide +kernel)]; kernel_rfl) | (rw [if_neg (by decide +kernel)]; exact ⟨rfl, rfl⟩))
    (fun os started H enc _ => lifted os started H enc)

/-- ████ THE STATEMENT ████ -/
theorem proved : Rows.FnFirstFrameSaid := over
#print axioms proved
end Go.Proofs.Ytmajlgnjgnodoaa.fnFirstFrame

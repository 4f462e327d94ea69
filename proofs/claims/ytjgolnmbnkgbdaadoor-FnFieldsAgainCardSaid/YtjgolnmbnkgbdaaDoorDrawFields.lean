/- The line that DrawSplitFields draws has at most 1000 bytes; nothing that was there is written. -/
import Derived.Test.YtjgolnmbnkgbdaaDoorDrawText
import Derived.Deep.DeepCutAuto
import Derived.Deep.CutBlock
namespace Go.Proofs.YtjgolnmbnkgbdaaDoor
open Go.RowKit
namespace Dr
open Own
def PickSP (ts : List ByteArray) (w : World) (k : Nat) (a : Option Addr) (len cap : Nat) (zs : List Int) (e : Ending) (w' : World) : Prop :=
  ∃ t : ByteArray, t ∈ ts ∧ e = .returned (.string t) ∧ Step w w' k a len cap zs
theorem pickStr {w : World} {k : Nat} {a : Option Addr} {len cap : Nat} {zs : List Int} (hs : Src w k a len cap zs) (g n m : Nat) (ts : List ByteArray) (hg : g ≠ k)
    (hb : w.heap[g]? = some (.cells (ts.map Value.string).toArray 9 (0, 0))) (hn : ts.length = n) (h0 : 0 < n) (hm : n ≤ 1000000) :
    Calls Tryd.prog 30 #[.pointer (some ⟨k, 0, none⟩), .slice (some ⟨g, 0, none⟩) n m] w (PickSP ts w k a len cap zs) := by
  have hcell : ∀ w' : World, w.grownBy w' (some k) → ∀ i : Nat, i < n → ∃ t : ByteArray, t ∈ ts ∧ w'.cell? ⟨g, i, none⟩ = some (.string t) := by
    intro w' hw i hi
    have hlt : g < w.heap.size := (Array.getElem?_eq_some_iff.1 hb).1
    refine ⟨ts[i]'(by omega), List.getElem_mem _, ?_⟩
    rw [World.cell?_of_block (w := w) (hw.block g hlt (by simpa using hg))]
    simp [World.cell?, hb, show i < ts.length by omega]
  have HC := Lib.hid hcell; clear hcell
  have HN := Lib.hid hn; clear hn
  have HB := Lib.hid hb; clear hb
  have HS := Lib.hid hs; clear hs
  have HG := Lib.hid hg; clear hg
  go_enter Tryd.func30, Tryd.ntmps30
  go_wp2_with fail
  refine (below HS.out _).mono ?_
  rintro e w1 ⟨x, hx0, hx1, hx2, rfl, hst⟩
  have HT := Lib.hid hst; clear hst
  obtain ⟨i, rfl⟩ := Int.eq_ofNat_of_zero_le hx0
  have hi : (i : Int) < n := hx1 (by omega)
  clear hx1 hx2
  obtain ⟨y, hy, hc⟩ := HC.out w1 HT.out.grown i (by omega)
  have HY := Lib.hid hy; clear hy
  go_wp2
  go_ret
  exact ⟨y, HY.out, rfl, HT.out⟩

theorem byteStr {P : Program} (src dst e : TypeId) (z : Int) (h0 : 0 ≤ z) (h1 : z < 256) (hs : P.underlying src = some (.slice e)) (he : P.underlying e = some (.int .u8)) (hd : P.underlying dst = some .string) (w : World) :
    (convert src dst (.slice (some ⟨w.heap.size, 0, none⟩) 1 1)).run P (w.alloc (.cells #[.int .u8 z] e)) = .ok (.string ⟨#[UInt8.ofNat z.toNat]⟩) (w.alloc (.cells #[.int .u8 z] e)) := by
  have ez : ((UInt8.ofNat z.toNat).toNat : Int) = z := by
    have : (UInt8.ofNat z.toNat).toNat = z.toNat := by simp; omega
    rw [this]; omega
  have h := run_convert_bytes_back (P := P) (w.alloc (.cells #[.int .u8 z] e)) src dst e ⟨w.heap.size, 0, none⟩ 1 [UInt8.ofNat z.toNat] hs he hd (fun j hj => by
    have : j = 0 := by simp at hj; omega
    subst this
    simp only [List.getElem_cons_zero, ez]
    simp [Addr.add, World.cell?_alloc_mark])
  exact h

/-- a step that may have made blocks besides -/
theorem Step.more {w w' w'' : World} {k : Nat} {a : Option Addr} {len cap : Nat} {zs : List Int} (s : Step w w' k a len cap zs) (hg : w'.grownBy w'' none) : Step w w'' k a len cap zs := by
  have hs := s.src
  have h2 : Src w'' k a len cap zs := hs.of_block fun j hj => hg.block j (Nat.lt_of_le_of_lt hj hs.lt) (by simp)
  exact ⟨⟨hg.os.trans s.grown.os, hg.tape.trans s.grown.tape, hg.output.trans s.grown.output, Nat.le_trans s.grown.size hg.size, fun j hj hne => (hg.block j (Nat.lt_of_lt_of_le hj s.grown.size) (by simp)).trans (s.grown.block j hj hne)⟩, h2⟩

theorem tails (u : ByteArray) (h : u ∈ ([⟨#[32]⟩, ⟨#[32, 32]⟩, ⟨#[9]⟩, ⟨#[10]⟩, ⟨#[127]⟩, ⟨#[233]⟩] : List ByteArray)) : u.size ≤ 2 := by
  simp only [List.mem_cons, List.not_mem_nil, or_false] at h
  rcases h with rfl | rfl | rfl | rfl | rfl | rfl <;> decide
def LineP (w : World) (e : Ending) (w' : World) : Prop := ∃ t : ByteArray, t.size ≤ 1000 ∧ e = .returned (.string t) ∧ Below w.heap.size w w'
theorem Step.stays3 {w w1 w2 : World} {a : Option Addr} {len cap : Nat} {zs : List Int} (h : Below w.heap.size w w1) (s : Step w1 w2 w.heap.size a len cap zs) : Below w.heap.size w w2 :=
  h.grown s.grown h.size (fun k hk => by cases hk; omega)

set_option maxRecDepth 100000 in
set_option maxHeartbeats 1000000 in
theorem drawLine {w : World} {a : Option Addr} {len cap : Nat} {zs : List Int} (hr : IsRow .u8 w a len cap zs) (hlen : len ≤ 1048576) :
    Calls Tryd.prog 15 #[.slice a len cap] w (LineP w) := by
  have HR := Lib.hid hr; clear hr
  go_enter Tryd.func15, Tryd.ntmps15
  go_wp2_with fail
  refine (new HR.out hlen).mono ?_
  rintro e w1 ⟨rfl, hb1, hs1⟩
  have HB := Lib.hid hb1; clear hb1
  have H1 := Lib.hid hs1; clear hs1
  go_wp2_with fail
  refine (below H1.out _).mono ?_
  rintro e w2 ⟨x, hx0, hx1, _, rfl, hst⟩
  have hx9 : x < 9 := hx1 (by omega)
  clear hx1
  have H2 := Lib.hid hst; clear hst
  go_wp2_with fail
  refine (once H2.out.src _).mono ?_
  rintro e w3 ⟨b, rfl, hst⟩
  have H3 := Lib.hid (H2.out.trans hst); clear hst
  go_upto_if 13 with (fail)
  go_cut [4] (fun s4 wx => ∃ n : Nat, n ≤ 25 ∧ s4 = .int .i64 n ∧ Hid (Step w1 wx w.heap.size a len cap zs))
  case first =>
    obtain ⟨x, rfl⟩ := Int.eq_ofNat_of_zero_le hx0
    cases b
    · go_wp2
      go_meet
      exact ⟨x, by omega, rfl, H3.out⟩
    · go_wp2_with fail
      refine (below H3.out.src _).mono ?_
      rintro e w4 ⟨y, hy0, hy1, _, rfl, hst⟩
      have hy2 : y < 2 := hy1 (by omega)
      clear hy1
      obtain ⟨y, rfl⟩ := Int.eq_ofNat_of_zero_le hy0
      have H4 := Lib.hid (H3.out.trans hst); clear hst
      go_wp2
      go_meet
      exact ⟨24 + y, by omega, by go_num, H4.out⟩
  case rest =>
    obtain ⟨n, hn, rfl, HS⟩ := hcut
    go_wp2
    go_loopw [5, 6] (fun v c wr => ∃ (i : Nat) (t : ByteArray), i ≤ n ∧ c = .int .i64 i ∧ v = .string t ∧ t.size ≤ 8 * i ∧ Hid (Step w1 wr w.heap.size a len cap zs)) (fun _ c _ => n - (intOf c).toNat)
    case atStart => exact ⟨0, ⟨#[]⟩, Nat.zero_le _, rfl, rfl, Nat.le_refl _, HS.out⟩
    case round =>
      obtain ⟨i, t, hi, rfl, rfl, ht, HT⟩ := hrel
      by_cases hlt : (i : Int) < n
      · go_upto_region 9 with (fail)
        go_cut [6, 27] (fun s6 s27 wx => ∃ b : Bool, s6 = .int .i64 i ∧ s27 = .bool b ∧ Hid (Step w1 wx w.heap.size a len cap zs))
        case first =>
          by_cases hp : (0 : Int) < i
          · go_wp2
            go_meet
            exact ⟨true, rfl, rfl, HT.out⟩
          · have HI := Lib.hid (show i = 0 by omega)
            have hd : decide ((0 : Int) < i) = false := by simpa using hp
            go_wp2_with fail
            refine (once HT.out.src _).mono ?_
            rintro e w4 ⟨b, rfl, hst⟩
            have HT4 := Lib.hid (HT.out.trans hst); clear hst
            go_wp2
            go_meet
            exact ⟨b, by rw [HI.out]; rfl, rfl, HT4.out⟩
        case rest =>
          clear HT
          obtain ⟨b, rfl, rfl, HT⟩ := hcut
          go_upto_if 27 with (fail)
          go_cut [5] (fun s5 wx => ∃ t2 : ByteArray, s5 = .string t2 ∧ t2.size ≤ 8 * i + 3 ∧ Hid (Step w1 wx w.heap.size a len cap zs))
          case first =>
            cases b
            · go_wp2
              go_meet
              exact ⟨t, rfl, by omega, HT.out⟩
            · go_wp2_with fail
              refine (below HT.out.src _).mono ?_
              rintro e w4 ⟨x, hx0, hx1, _, rfl, hst⟩
              have hx2 : x < 2 := hx1 (by omega)
              clear hx1
              have HT4 := Lib.hid (HT.out.trans hst); clear hst
              go_wp2_with fail
              refine (below HT4.out.src _).mono ?_
              rintro e w5 ⟨y, hy0, hy1, _, rfl, hst⟩
              have hy2 : y < 3 := hy1 (by omega)
              clear hy1
              have HT5 := Lib.hid (HT4.out.trans hst); clear hst
              obtain ⟨z, hz, hz2⟩ : ∃ z : Nat, x * y = (z : Int) ∧ z ≤ 2 := by
                have : x = 0 ∨ x = 1 := by omega
                rcases this with rfl | rfl
                · exact ⟨0, by simp, by omega⟩
                · exact ⟨y.toNat, by omega, by omega⟩
              go_wp2_with fail
              rw [show (1 + (z : Int)) = ((1 + z : Nat) : Int) by omega]
              refine (long (1 + z) 32 w5 (by omega) (by omega) (by omega)).mono ?_
              rintro e w6 ⟨l, hl, rfl, hg⟩
              have hls : (ByteArray.mk l.toArray).size = 1 + z := by rw [← hl]; show l.toArray.size = _; simp
              have HT6 := Lib.hid (HT5.out.more hg); clear hg hl
              have hcc : ¬ (9223372036854775807 < t.size + (ByteArray.mk l.toArray).size) := by omega
              have hsz : (t ++ ByteArray.mk l.toArray).size ≤ 8 * i + 3 := by rw [ByteArray.size_append]; omega
              have HSZ := Lib.hid hsz; clear hsz
              have HLS := Lib.hid hls; clear hls
              generalize ByteArray.mk l.toArray = u at *
              go_wp2
              go_meet
              exact ⟨_, rfl, HSZ.out, HT6.out⟩
          case rest =>
            clear HT
            obtain ⟨t2, rfl, ht2, HT⟩ := hcut
            go_wp2
            go_loopw [5, 7] (fun v c wq => ∃ (j : Nat) (t3 : ByteArray), j ≤ 5 ∧ c = .int .i64 j ∧ v = .string t3 ∧ t3.size ≤ 8 * i + 3 + j ∧ Hid (Step w1 wq w.heap.size a len cap zs)) (fun _ c _ => 5 - (intOf c).toNat)
            case atStart => exact ⟨0, t2, by omega, rfl, rfl, by omega, HT.out⟩
            case round =>
              clear HT
              obtain ⟨j, t3, hj, rfl, rfl, ht3, HT⟩ := hrel
              go_wp2_with fail
              refine (below HT.out.src _).mono ?_
              rintro e w4 ⟨x, hx0, hx1, _, rfl, hst⟩
              have hx2 : x < 5 := hx1 (by omega)
              clear hx1
              have HT4 := Lib.hid (HT.out.trans hst); clear hst
              by_cases hjx : (j : Int) ≤ x
              · go_wp2_with fail
                refine (below HT4.out.src _).mono ?_
                rintro e w5 ⟨y, hy0, hy1, _, rfl, hst⟩
                have hy2 : y < 94 := hy1 (by omega)
                clear hy1
                have HT5 := Lib.hid (HT4.out.trans hst); clear hst
                have hbs := byteStr (P := Tryd.prog) 22 9 5 (33 + y) (by omega) (by omega) Tryd.underlying22 Tryd.underlying5 Tryd.underlying9
                generalize hcd : UInt8.ofNat (33 + y).toNat = cd at hbs
                have HCD := Lib.hid hcd; clear hcd
                have hcc : ¬ (9223372036854775807 < t3.size + 1) := by omega
                have HSZ := Lib.hid (show (t3 ++ ByteArray.mk #[cd]).size ≤ 8 * i + 3 + (j + 1) by rw [ByteArray.size_append]; have : (ByteArray.mk #[cd]).size = 1 := rfl; omega)
                go_wp2
                go_roundw
                case rel => exact ⟨j + 1, _, by omega, by go_num, rfl, HSZ.out, HT5.out.alloc _⟩
                case measure => simp [intOf]; omega
              · go_wp2
                go_roundw
                case rel => exact ⟨i + 1, t3, by omega, by go_num, rfl, by omega, HT4.out⟩
                case measure => simp [intOf]; omega
      · go_wp2_with fail
        refine (below HT.out.src _).mono ?_
        rintro e w4 ⟨x, hx0, hx1, _, rfl, hst⟩
        have hx2 : x < 12 := hx1 (by omega)
        clear hx1
        have HT4 := Lib.hid (HT.out.trans hst); clear hst
        have ht200 : t.size ≤ 200 := by omega
        by_cases e0 : x = 0
        · subst e0
          go_wp2_with fail
          refine (pickStr (HT4.out.alloc _).src w4.heap.size 6 6 [⟨#[32]⟩, ⟨#[32, 32]⟩, ⟨#[9]⟩, ⟨#[10]⟩, ⟨#[127]⟩, ⟨#[233]⟩] (Nat.ne_of_gt HT4.out.src.lt) (heap_new _ _) rfl (by omega) (by omega)).mono ?_
          rintro e w5 ⟨u, hu, rfl, hst⟩
          have hu2 := tails u hu
          have HT5 := Lib.hid ((HT4.out.alloc _).trans hst); clear hst hu
          have hcc : ¬ (9223372036854775807 < t.size + u.size) := by omega
          have HSZ := Lib.hid (show (t ++ u).size ≤ 1000 by rw [ByteArray.size_append]; omega)
          go_wp2
          go_ret
          exact ⟨_, HSZ.out, rfl, Step.stays3 HB.out HT5.out⟩
        · have hb0 : (x == 0) = false := by simp; omega
          by_cases e1 : x = 1
          · subst e1
            go_wp2_with fail
            refine (below HT4.out.src _).mono ?_
            rintro e w5 ⟨y, hy0, hy1, _, rfl, hst⟩
            have hy2 : y < 2 := hy1 (by omega)
            clear hy1
            obtain ⟨y, rfl⟩ := Int.eq_ofNat_of_zero_le hy0
            have HT5 := Lib.hid (HT4.out.trans hst); clear hst
            go_wp2_with fail
            rw [show (600 - (t.size : Int) + (y : Int)) = ((600 - t.size + y : Nat) : Int) by omega]
            refine (long (600 - t.size + y) 32 w5 (by omega) (by omega) (by omega)).mono ?_
            rintro e w6 ⟨l, hl, rfl, hg⟩
            have hls : (ByteArray.mk l.toArray).size = 600 - t.size + y := by rw [← hl]; show l.toArray.size = _; simp
            have HT6 := Lib.hid (HT5.out.more hg); clear hg hl
            have hcc : ¬ (9223372036854775807 < t.size + (ByteArray.mk l.toArray).size) := by omega
            have HSZ := Lib.hid (show (t ++ ByteArray.mk l.toArray).size ≤ 1000 by rw [ByteArray.size_append]; omega)
            clear hls
            generalize ByteArray.mk l.toArray = u at *
            go_wp2
            go_ret
            exact ⟨_, HSZ.out, rfl, Step.stays3 HB.out HT6.out⟩
          · have hb1 : (x == 1) = false := by simp; omega
            go_wp2
            go_ret
            exact ⟨t, by omega, rfl, Step.stays3 HB.out HT4.out⟩
end Dr
end Go.Proofs.YtjgolnmbnkgbdaaDoor

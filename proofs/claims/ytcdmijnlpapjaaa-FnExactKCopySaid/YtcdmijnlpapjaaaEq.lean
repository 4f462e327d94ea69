/- The laws' comparisons. -/
import Derived.Test.YtcdmijnlpapjaaaEnc
import Derived.WalkKit
import Derived.ProofKit
import Derived.BigQuiet
import Derived.Deep.QuietTactic
import Derived.Deep.RegionHeld3
import Derived.Lib.Hide
namespace Go.Proofs.Ytcdmijnlpapjaaa
open Go.RowKit
namespace Tr
theorem h_eqBoolS (l : List Bool) (a b : Value) (w : World) (ha : Rd w (eBoolS l) [a]) (hb : Rd w (eBoolS l) [b]) (hs : (eBoolS l).sz ≤ 1000000000) :
    Calls Try.prog 127 #[a, b] w (TrueP w) := by
  obtain ⟨bs1, ha⟩ := ha
  obtain ⟨bs2, hb⟩ := hb
  have hl := sz_len hs
  obtain ⟨A, n, c1, rfl, hn, _, _, hA⟩ := read_plain (V := fun x => .bool x) ha (fun _ => rfl)
  obtain ⟨B, n2, c2, rfl, hn2, _, _, hB⟩ := read_plain (V := fun x => .bool x) hb (fun _ => rfl)
  obtain rfl : n2 = n := by rw [hn, hn2]
  have HA := Lib.hid hA
  have HB := Lib.hid hB
  have hl' : (n2 : Int) ≤ 1000000000 := by omega
  clear ha hb hA hB hn2 hn hl hs
  go_enter Try.func127, Try.ntmps127
  go_wp2
  go_loopw [5] (fun c wr => ∃ (i m : Nat), i ≤ n2 ∧ c = .int .i64 i ∧ wr = w.drewN m) (fun c _ => n2 - (intOf c).toNat)
  case atStart => exact ⟨0, 0, Nat.zero_le _, rfl, rfl⟩
  case round =>
    obtain ⟨i, m, hi, rfl, rfl⟩ := hrel
    by_cases hlt : (i : Int) < n2
    · have hi0 : (0 : Int) ≤ i := by omega
      obtain ⟨g, o, t, rfl, hx, hca⟩ := HA.out i (by omega)
      obtain ⟨g2, o2, t2, rfl, hy, hcb⟩ := HB.out i (by omega)
      obtain rfl : t2 = t := Option.some.inj (hy.symm.trans hx)
      clear hx hy
      have htt : (t2 != t2) = false := by simp
      go_wp2_with fail
      go_quiet (fail)
      go_wp2
      go_roundw
      case rel => exact ⟨i + 1, _, by omega, by go_num, rfl⟩
      case measure => simp [intOf]; omega
    · go_wp2
      go_ret
      exact ⟨rfl, below_drewN (Below.refl _ _) m⟩
theorem h_eqEntry (x : GEntry) (w : World) :
    Calls Try.prog 144 #[.agg #[.int .i64 x.Mode, .int .i64 x.Frame], .agg #[.int .i64 x.Mode, .int .i64 x.Frame]] w (TrueP w) := by
  have hq0 : (x.Mode != x.Mode) = false := by simp
  have hq1 : (x.Frame != x.Frame) = false := by simp
  generalize x.Mode = y0 at *
  generalize x.Frame = y1 at *
  go_enter Try.func144, Try.ntmps144
  go_wp2
  go_ret
  exact ⟨rfl, ((Below.refl _ _).alloc (Nat.le_refl _) _).alloc (by simp) _⟩
theorem h_eqEntryS (l : List GEntry) (a b : Value) (w : World) (ha : Rd w (eEntryS l) [a]) (hb : Rd w (eEntryS l) [b]) (hs : (eEntryS l).sz ≤ 1000000000) :
    Calls Try.prog 128 #[a, b] w (TrueP w) := by
  obtain ⟨bs1, ha⟩ := ha
  obtain ⟨bs2, hb⟩ := hb
  have hl := sz_len hs
  obtain ⟨A, n, c1, rfl, hn, _, _, hA⟩ := read_rowD (E := eEntry) (k := 2) ha (fun _ => rfl)
  obtain ⟨B, n2, c2, rfl, hn2, _, _, hB⟩ := read_rowD (E := eEntry) (k := 2) hb (fun _ => rfl)
  obtain rfl : n2 = n := by rw [hn, hn2]
  have HA := Lib.hid hA
  have HB := Lib.hid hB
  have HS := Lib.hid hs
  have hl' : (n2 : Int) ≤ 1000000000 := by omega
  clear ha hb hA hB hn2 hn hl hs
  go_enter Try.func128, Try.ntmps128
  go_wp2
  go_loopw [5] (fun c wr => ∃ (i : Nat), i ≤ n2 ∧ c = .int .i64 i ∧ Hid (Below w.heap.size w wr)) (fun c _ => n2 - (intOf c).toNat)
  case atStart => exact ⟨0, Nat.zero_le _, rfl, Below.refl _ _⟩
  case round =>
    obtain ⟨i, hi, rfl, HBL⟩ := hrel
    by_cases hlt : (i : Int) < n2
    · have hi0 : (0 : Int) ≤ i := by omega
      obtain ⟨g, o, t, us, b1, rfl, hx, hus, hca, ho, _⟩ := HA.out i (by omega)
      obtain ⟨g2, o2, t2, us2, b2, rfl, hy, hus2, hcb, ho2, _⟩ := HB.out i (by omega)
      obtain rfl : t2 = t := Option.some.inj (hy.symm.trans hx)
      have hsx := sz_elem HS.out hx
      obtain rfl := inv_Entry ho
      obtain rfl := inv_Entry ho2
      have HQ : Hid (∀ w', Below w.heap.size w w' → Calls Try.prog 144 #[.agg #[.int .i64 t2.Mode, .int .i64 t2.Frame], .agg #[.int .i64 t2.Mode, .int .i64 t2.Frame]] w' (TrueP w)) := fun w' hb => (h_eqEntry t2 w').mono (fun _ _ h => ⟨h.1, below_step hb h.2⟩)
      have HC0 : Hid (∀ w', Below w.heap.size w w' → w'.cell? ⟨g, o + i * 2, none⟩ = some (.int .i64 t2.Mode)) := fun w' hb => cell_below hb (hca 0 (by omega))
      have HD0 : Hid (∀ w', Below w.heap.size w w' → w'.cell? ⟨g2, o2 + i * 2, none⟩ = some (.int .i64 t2.Mode)) := fun w' hb => cell_below hb (hcb 0 (by omega))
      have HC1 : Hid (∀ w', Below w.heap.size w w' → w'.cell? ⟨g, o + i * 2 + 1, none⟩ = some (.int .i64 t2.Frame)) := fun w' hb => cell_below hb (hca 1 (by omega))
      have HD1 : Hid (∀ w', Below w.heap.size w w' → w'.cell? ⟨g2, o2 + i * 2 + 1, none⟩ = some (.int .i64 t2.Frame)) := fun w' hb => cell_below hb (hcb 1 (by omega))
      have hbl := HBL.out
      clear hca hcb hx hy ho ho2 hsx
      go_wp2_with fail
      go_region_held3 (fun w' => w'.cell? ⟨g, o + i * 2, none⟩ = some (.int .i64 t2.Mode) ∧ w'.cell? ⟨g2, o2 + i * 2, none⟩ = some (.int .i64 t2.Mode) ∧ w'.cell? ⟨g, o + i * 2 + 1, none⟩ = some (.int .i64 t2.Frame) ∧ w'.cell? ⟨g2, o2 + i * 2 + 1, none⟩ = some (.int .i64 t2.Frame) ∧ Below w.heap.size w w') (first | (have hz := hbl.drew; exact ⟨HC0.out _ hz, HD0.out _ hz, HC1.out _ hz, HD1.out _ hz, hz⟩) | (refine ⟨HC0.out _ ?_, HD0.out _ ?_, HC1.out _ ?_, HD1.out _ ?_, ?_⟩ <;> assumption)) ((go_at_call 144; refine (HQ.out _ (by first | exact hbl.drew | assumption)).mono ?_; rintro e w' ⟨rfl, hb'⟩))
      go_wp2
      go_roundw
      case rel => exact ⟨i + 1, by omega, by go_num, by assumption⟩
      case measure => simp [intOf]; omega
    · go_wp2
      go_ret
      exact ⟨rfl, HBL.out⟩
theorem h_eqIntS (l : List Int) (a b : Value) (w : World) (ha : Rd w (eIntS l) [a]) (hb : Rd w (eIntS l) [b]) (hs : (eIntS l).sz ≤ 1000000000) :
    Calls Try.prog 29 #[a, b] w (TrueP w) := by
  obtain ⟨bs1, ha⟩ := ha
  obtain ⟨bs2, hb⟩ := hb
  have hl := sz_len hs
  obtain ⟨A, n, c1, rfl, hn, _, _, hA⟩ := read_plain (V := fun x => .int .i64 x) ha (fun _ => rfl)
  obtain ⟨B, n2, c2, rfl, hn2, _, _, hB⟩ := read_plain (V := fun x => .int .i64 x) hb (fun _ => rfl)
  obtain rfl : n2 = n := by rw [hn, hn2]
  have HA := Lib.hid hA
  have HB := Lib.hid hB
  have hl' : (n2 : Int) ≤ 1000000000 := by omega
  clear ha hb hA hB hn2 hn hl hs
  go_enter Try.func29, Try.ntmps29
  go_wp2
  go_loopw [5] (fun c wr => ∃ (i m : Nat), i ≤ n2 ∧ c = .int .i64 i ∧ wr = w.drewN m) (fun c _ => n2 - (intOf c).toNat)
  case atStart => exact ⟨0, 0, Nat.zero_le _, rfl, rfl⟩
  case round =>
    obtain ⟨i, m, hi, rfl, rfl⟩ := hrel
    by_cases hlt : (i : Int) < n2
    · have hi0 : (0 : Int) ≤ i := by omega
      obtain ⟨g, o, t, rfl, hx, hca⟩ := HA.out i (by omega)
      obtain ⟨g2, o2, t2, rfl, hy, hcb⟩ := HB.out i (by omega)
      obtain rfl : t2 = t := Option.some.inj (hy.symm.trans hx)
      clear hx hy
      have htt : (t2 != t2) = false := by simp
      go_wp2_with fail
      go_quiet (fail)
      go_wp2
      go_roundw
      case rel => exact ⟨i + 1, _, by omega, by go_num, rfl⟩
      case measure => simp [intOf]; omega
    · go_wp2
      go_ret
      exact ⟨rfl, below_drewN (Below.refl _ _) m⟩
theorem h_eqIntSS (l : List (List Int)) (a b : Value) (w : World) (ha : Rd w (eIntSS l) [a]) (hb : Rd w (eIntSS l) [b]) (hs : (eIntSS l).sz ≤ 1000000000) :
    Calls Try.prog 126 #[a, b] w (TrueP w) := by
  obtain ⟨bs1, ha⟩ := ha
  obtain ⟨bs2, hb⟩ := hb
  have hl := sz_len hs
  obtain ⟨A, n, c1, rfl, hn, _, _, hA⟩ := read_rowD (E := eIntS) (k := 1) ha (fun _ => rfl)
  obtain ⟨B, n2, c2, rfl, hn2, _, _, hB⟩ := read_rowD (E := eIntS) (k := 1) hb (fun _ => rfl)
  obtain rfl : n2 = n := by rw [hn, hn2]
  have HA := Lib.hid hA
  have HB := Lib.hid hB
  have HS := Lib.hid hs
  have hl' : (n2 : Int) ≤ 1000000000 := by omega
  clear ha hb hA hB hn2 hn hl hs
  go_enter Try.func126, Try.ntmps126
  go_wp2
  go_loopw [5] (fun c wr => ∃ (i : Nat), i ≤ n2 ∧ c = .int .i64 i ∧ Hid (Below w.heap.size w wr)) (fun c _ => n2 - (intOf c).toNat)
  case atStart => exact ⟨0, Nat.zero_le _, rfl, Below.refl _ _⟩
  case round =>
    obtain ⟨i, hi, rfl, HBL⟩ := hrel
    by_cases hlt : (i : Int) < n2
    · have hi0 : (0 : Int) ≤ i := by omega
      obtain ⟨g, o, t, us, b1, rfl, hx, hus, hca, ho, _⟩ := HA.out i (by omega)
      obtain ⟨g2, o2, t2, us2, b2, rfl, hy, hus2, hcb, ho2, _⟩ := HB.out i (by omega)
      obtain rfl : t2 = t := Option.some.inj (hy.symm.trans hx)
      have hsx := sz_elem HS.out hx
      simp only [Nat.mul_one] at hca hcb
      match us, hus, us2, hus2 with
      | [p0], _, [q0], _ =>
      have HQ : Hid (∀ w', Below w.heap.size w w' → Calls Try.prog 29 #[p0, q0] w' (TrueP w)) := fun w' hb => (h_eqIntS t2 p0 q0 w' (Rd.below ⟨_, ho⟩ hb) (Rd.below ⟨_, ho2⟩ hb) hsx).mono (fun _ _ h => ⟨h.1, below_step hb h.2⟩)
      have HC0 : Hid (∀ w', Below w.heap.size w w' → w'.cell? ⟨g, o + i, none⟩ = some (p0)) := fun w' hb => cell_below hb (hca 0 (by omega))
      have HD0 : Hid (∀ w', Below w.heap.size w w' → w'.cell? ⟨g2, o2 + i, none⟩ = some (q0)) := fun w' hb => cell_below hb (hcb 0 (by omega))
      have hbl := HBL.out
      clear hca hcb hx hy ho ho2 hsx
      go_wp2_with fail
      go_region_held3 (fun w' => w'.cell? ⟨g, o + i, none⟩ = some (p0) ∧ w'.cell? ⟨g2, o2 + i, none⟩ = some (q0) ∧ Below w.heap.size w w') (first | (have hz := hbl.drew; exact ⟨HC0.out _ hz, HD0.out _ hz, hz⟩) | (refine ⟨HC0.out _ ?_, HD0.out _ ?_, ?_⟩ <;> assumption)) ((go_at_call 29; refine (HQ.out _ (by first | exact hbl.drew | assumption)).mono ?_; rintro e w' ⟨rfl, hb'⟩))
      go_wp2
      go_roundw
      case rel => exact ⟨i + 1, by omega, by go_num, by assumption⟩
      case measure => simp [intOf]; omega
    · go_wp2
      go_ret
      exact ⟨rfl, HBL.out⟩
theorem h_eqFrames (x : GFrames) (c0 c1 d0 d1 : Value) (w : World) (ha : Rd w (eFrames x) [c0, c1]) (hb : Rd w (eFrames x) [d0, d1]) (hs : (eFrames x).sz ≤ 1000000000) :
    Calls Try.prog 106 #[.agg #[c0, c1], .agg #[d0, d1]] w (TrueP w) := by
  obtain ⟨ha0, hat0⟩ := rd_split ha
  have ha1 := hat0
  obtain ⟨hb0, hbt0⟩ := rd_split hb
  have hb1 := hbt0
  rw [sz_Frames] at hs
  obtain ⟨B, hB⟩ : ∃ B, w.heap.size = B := ⟨_, rfl⟩
  have hboxa : ((w.alloc (.cells #[c0, c1] 27)).alloc (.cells #[d0, d1] 27)).heap[B]? = some (.cells #[c0, c1] 27 (0, 0)) := by rw [← hB]; exact (Below.heap_alloc _ _ _ (by simp)).trans (heap_alloc_new w _)
  have hboxb : ((w.alloc (.cells #[c0, c1] 27)).alloc (.cells #[d0, d1] 27)).heap[B + 1]? = some (.cells #[d0, d1] 27 (0, 0)) := by rw [← hB]; have := heap_alloc_new (w.alloc (.cells #[c0, c1] 27)) (.cells #[d0, d1] 27); simpa using this
  have hbl0 : Below w.heap.size w ((w.alloc (.cells #[c0, c1] 27)).alloc (.cells #[d0, d1] 27)) := ((Below.refl _ _).alloc (Nat.le_refl _) _).alloc (by simp) _
  obtain ⟨w0, hw0⟩ : ∃ w0, ((w.alloc (.cells #[c0, c1] 27)).alloc (.cells #[d0, d1] 27)) = w0 := ⟨_, rfl⟩
  rw [hw0] at hboxa hboxb hbl0
  have HA0 : Hid (Rd w (eIntSS x.Cells) [c0]) := ha0
  have HB0 : Hid (Rd w (eIntSS x.Cells) [d0]) := hb0
  have HA1 : Hid (Rd w (eBoolS x.Used) [c1]) := ha1
  have HB1 : Hid (Rd w (eBoolS x.Used) [d1]) := hb1
  have HXA := Lib.hid hboxa
  have HXB := Lib.hid hboxb
  have HBL := Lib.hid hbl0
  have HW := Lib.hid hw0
  clear hboxa hboxb hbl0 hw0 ha0 hb0 ha1 hb1
  go_enter Try.func106, Try.ntmps106
  go_wp2_with fail
  rw [HW.out]
  clear HW
  have hsz0 : (eIntSS x.Cells).sz ≤ 1000000000 := by omega
  refine (h_eqIntSS x.Cells c0 d0 w0 (HA0.out.below HBL.out) (HB0.out.below HBL.out) hsz0).mono ?_
  rintro e w1 ⟨rfl, hb0⟩
  have HXA' := Lib.hid ((hb0.block B (lt_of_block HXA.out)).trans HXA.out)
  have HXB' := Lib.hid ((hb0.block (B + 1) (lt_of_block HXB.out)).trans HXB.out)
  have HBL' := Lib.hid (below_step HBL.out hb0)
  clear HXA HXB HBL
  have HXA := HXA'
  have HXB := HXB'
  have HBL := HBL'
  clear HXA' HXB' HBL' hb0 hsz0
  have hc1 : w1.cell? ⟨B, 1, none⟩ = some (c1) := cell_of_block HXA.out 1
  have hd1 : w1.cell? ⟨B + 1, 1, none⟩ = some (d1) := cell_of_block HXB.out 1
  go_wp2_with fail
  have hsz1 : (eBoolS x.Used).sz ≤ 1000000000 := by omega
  refine (h_eqBoolS x.Used c1 d1 w1 (HA1.out.below HBL.out) (HB1.out.below HBL.out) hsz1).mono ?_
  rintro e w2 ⟨rfl, hb1⟩
  have HXA' := Lib.hid ((hb1.block B (lt_of_block HXA.out)).trans HXA.out)
  have HXB' := Lib.hid ((hb1.block (B + 1) (lt_of_block HXB.out)).trans HXB.out)
  have HBL' := Lib.hid (below_step HBL.out hb1)
  clear HXA HXB HBL
  have HXA := HXA'
  have HXB := HXB'
  have HBL := HBL'
  clear HXA' HXB' HBL' hb1 hsz1
  go_wp2
  go_ret
  exact ⟨rfl, HBL.out⟩
theorem h_eqTable (x : GTable) (c0 d0 : Value) (w : World) (ha : Rd w (eTable x) [c0]) (hb : Rd w (eTable x) [d0]) (hs : (eTable x).sz ≤ 1000000000) :
    Calls Try.prog 107 #[.agg #[c0], .agg #[d0]] w (TrueP w) := by
  have ha0 := ha
  have hb0 := hb
  rw [sz_Table] at hs
  obtain ⟨B, hB⟩ : ∃ B, w.heap.size = B := ⟨_, rfl⟩
  have hboxa : ((w.alloc (.cells #[c0] 30)).alloc (.cells #[d0] 30)).heap[B]? = some (.cells #[c0] 30 (0, 0)) := by rw [← hB]; exact (Below.heap_alloc _ _ _ (by simp)).trans (heap_alloc_new w _)
  have hboxb : ((w.alloc (.cells #[c0] 30)).alloc (.cells #[d0] 30)).heap[B + 1]? = some (.cells #[d0] 30 (0, 0)) := by rw [← hB]; have := heap_alloc_new (w.alloc (.cells #[c0] 30)) (.cells #[d0] 30); simpa using this
  have hbl0 : Below w.heap.size w ((w.alloc (.cells #[c0] 30)).alloc (.cells #[d0] 30)) := ((Below.refl _ _).alloc (Nat.le_refl _) _).alloc (by simp) _
  obtain ⟨w0, hw0⟩ : ∃ w0, ((w.alloc (.cells #[c0] 30)).alloc (.cells #[d0] 30)) = w0 := ⟨_, rfl⟩
  rw [hw0] at hboxa hboxb hbl0
  have HA0 : Hid (Rd w (eEntryS x.Entries) [c0]) := ha0
  have HB0 : Hid (Rd w (eEntryS x.Entries) [d0]) := hb0
  have HXA := Lib.hid hboxa
  have HXB := Lib.hid hboxb
  have HBL := Lib.hid hbl0
  have HW := Lib.hid hw0
  clear hboxa hboxb hbl0 hw0 ha0 hb0
  go_enter Try.func107, Try.ntmps107
  go_wp2_with fail
  rw [HW.out]
  clear HW
  have hsz0 : (eEntryS x.Entries).sz ≤ 1000000000 := by omega
  refine (h_eqEntryS x.Entries c0 d0 w0 (HA0.out.below HBL.out) (HB0.out.below HBL.out) hsz0).mono ?_
  rintro e w1 ⟨rfl, hb0⟩
  have HXA' := Lib.hid ((hb0.block B (lt_of_block HXA.out)).trans HXA.out)
  have HXB' := Lib.hid ((hb0.block (B + 1) (lt_of_block HXB.out)).trans HXB.out)
  have HBL' := Lib.hid (below_step HBL.out hb0)
  clear HXA HXB HBL
  have HXA := HXA'
  have HXB := HXB'
  have HBL := HBL'
  clear HXA' HXB' HBL' hb0 hsz0
  go_wp2
  go_ret
  exact ⟨rfl, HBL.out⟩
theorem h_eqMachine (x : GMachine) (c0 c1 c2 d0 d1 d2 : Value) (w : World) (ha : Rd w (eMachine x) [c0, c1, c2]) (hb : Rd w (eMachine x) [d0, d1, d2]) (hs : (eMachine x).sz ≤ 1000000000) :
    Calls Try.prog 65 #[.agg #[c0, c1, c2], .agg #[d0, d1, d2]] w (TrueP w) := by
  obtain ⟨ha0, hat0⟩ := rd_split ha
  have ha1 := hat0
  obtain ⟨hb0, hbt0⟩ := rd_split hb
  have hb1 := hbt0
  rw [sz_Machine] at hs
  obtain ⟨B, hB⟩ : ∃ B, w.heap.size = B := ⟨_, rfl⟩
  have hboxa : ((w.alloc (.cells #[c0, c1, c2] 32)).alloc (.cells #[d0, d1, d2] 32)).heap[B]? = some (.cells #[c0, c1, c2] 32 (0, 0)) := by rw [← hB]; exact (Below.heap_alloc _ _ _ (by simp)).trans (heap_alloc_new w _)
  have hboxb : ((w.alloc (.cells #[c0, c1, c2] 32)).alloc (.cells #[d0, d1, d2] 32)).heap[B + 1]? = some (.cells #[d0, d1, d2] 32 (0, 0)) := by rw [← hB]; have := heap_alloc_new (w.alloc (.cells #[c0, c1, c2] 32)) (.cells #[d0, d1, d2] 32); simpa using this
  have hbl0 : Below w.heap.size w ((w.alloc (.cells #[c0, c1, c2] 32)).alloc (.cells #[d0, d1, d2] 32)) := ((Below.refl _ _).alloc (Nat.le_refl _) _).alloc (by simp) _
  obtain ⟨w0, hw0⟩ : ∃ w0, ((w.alloc (.cells #[c0, c1, c2] 32)).alloc (.cells #[d0, d1, d2] 32)) = w0 := ⟨_, rfl⟩
  rw [hw0] at hboxa hboxb hbl0
  have HA0 : Hid (Rd w (eFrames x.Frames) [c0, c1]) := ha0
  have HB0 : Hid (Rd w (eFrames x.Frames) [d0, d1]) := hb0
  have HA1 : Hid (Rd w (eTable x.Table) [c2]) := ha1
  have HB1 : Hid (Rd w (eTable x.Table) [d2]) := hb1
  have HXA := Lib.hid hboxa
  have HXB := Lib.hid hboxb
  have HBL := Lib.hid hbl0
  have HW := Lib.hid hw0
  clear hboxa hboxb hbl0 hw0 ha0 hb0 ha1 hb1
  go_enter Try.func65, Try.ntmps65
  go_wp2_with fail
  rw [HW.out]
  clear HW
  have hsz0 : (eFrames x.Frames).sz ≤ 1000000000 := by omega
  refine (h_eqFrames x.Frames c0 c1 d0 d1 w0 (HA0.out.below HBL.out) (HB0.out.below HBL.out) hsz0).mono ?_
  rintro e w1 ⟨rfl, hb0⟩
  have HXA' := Lib.hid ((hb0.block B (lt_of_block HXA.out)).trans HXA.out)
  have HXB' := Lib.hid ((hb0.block (B + 1) (lt_of_block HXB.out)).trans HXB.out)
  have HBL' := Lib.hid (below_step HBL.out hb0)
  clear HXA HXB HBL
  have HXA := HXA'
  have HXB := HXB'
  have HBL := HBL'
  clear HXA' HXB' HBL' hb0 hsz0
  have hc2 : w1.cell? ⟨B, 2, none⟩ = some (c2) := cell_of_block HXA.out 2
  have hd2 : w1.cell? ⟨B + 1, 2, none⟩ = some (d2) := cell_of_block HXB.out 2
  go_wp2_with fail
  have hsz1 : (eTable x.Table).sz ≤ 1000000000 := by omega
  refine (h_eqTable x.Table c2 d2 w1 (HA1.out.below HBL.out) (HB1.out.below HBL.out) hsz1).mono ?_
  rintro e w2 ⟨rfl, hb1⟩
  have HXA' := Lib.hid ((hb1.block B (lt_of_block HXA.out)).trans HXA.out)
  have HXB' := Lib.hid ((hb1.block (B + 1) (lt_of_block HXB.out)).trans HXB.out)
  have HBL' := Lib.hid (below_step HBL.out hb1)
  clear HXA HXB HBL
  have HXA := HXA'
  have HXB := HXB'
  have HBL := HBL'
  clear HXA' HXB' HBL' hb1 hsz1
  go_wp2
  go_ret
  exact ⟨rfl, HBL.out⟩
theorem h_eqKernel (x : GKernel) (c0 c1 c2 c3 d0 d1 d2 d3 : Value) (w : World) (ha : Rd w (eKernel x) [c0, c1, c2, .int .i64 x.Calls, c3]) (hb : Rd w (eKernel x) [d0, d1, d2, .int .i64 x.Calls, d3]) (hs : (eKernel x).sz ≤ 1000000000) :
    Calls Try.prog 28 #[.agg #[c0, c1, c2, .int .i64 x.Calls, c3], .agg #[d0, d1, d2, .int .i64 x.Calls, d3]] w (TrueP w) := by
  have hq3 : (x.Calls != x.Calls) = false := by simp
  obtain ⟨ha0, hat0⟩ := rd_split ha
  obtain ⟨ha1, hat1⟩ := rd_split hat0
  have ha2 := hat1
  obtain ⟨hb0, hbt0⟩ := rd_split hb
  obtain ⟨hb1, hbt1⟩ := rd_split hbt0
  have hb2 := hbt1
  rw [sz_Kernel] at hs
  obtain ⟨B, hB⟩ : ∃ B, w.heap.size = B := ⟨_, rfl⟩
  have hboxa : ((w.alloc (.cells #[c0, c1, c2, .int .i64 x.Calls, c3] 35)).alloc (.cells #[d0, d1, d2, .int .i64 x.Calls, d3] 35)).heap[B]? = some (.cells #[c0, c1, c2, .int .i64 x.Calls, c3] 35 (0, 0)) := by rw [← hB]; exact (Below.heap_alloc _ _ _ (by simp)).trans (heap_alloc_new w _)
  have hboxb : ((w.alloc (.cells #[c0, c1, c2, .int .i64 x.Calls, c3] 35)).alloc (.cells #[d0, d1, d2, .int .i64 x.Calls, d3] 35)).heap[B + 1]? = some (.cells #[d0, d1, d2, .int .i64 x.Calls, d3] 35 (0, 0)) := by rw [← hB]; have := heap_alloc_new (w.alloc (.cells #[c0, c1, c2, .int .i64 x.Calls, c3] 35)) (.cells #[d0, d1, d2, .int .i64 x.Calls, d3] 35); simpa using this
  have hbl0 : Below w.heap.size w ((w.alloc (.cells #[c0, c1, c2, .int .i64 x.Calls, c3] 35)).alloc (.cells #[d0, d1, d2, .int .i64 x.Calls, d3] 35)) := ((Below.refl _ _).alloc (Nat.le_refl _) _).alloc (by simp) _
  obtain ⟨w0, hw0⟩ : ∃ w0, ((w.alloc (.cells #[c0, c1, c2, .int .i64 x.Calls, c3] 35)).alloc (.cells #[d0, d1, d2, .int .i64 x.Calls, d3] 35)) = w0 := ⟨_, rfl⟩
  rw [hw0] at hboxa hboxb hbl0
  have HA0 : Hid (Rd w (eMachine x.Machine) [c0, c1, c2]) := ha0
  have HB0 : Hid (Rd w (eMachine x.Machine) [d0, d1, d2]) := hb0
  have HA2 : Hid (Rd w (eIntS x.Refuse) [c3]) := ha2
  have HB2 : Hid (Rd w (eIntS x.Refuse) [d3]) := hb2
  have HXA := Lib.hid hboxa
  have HXB := Lib.hid hboxb
  have HBL := Lib.hid hbl0
  have HW := Lib.hid hw0
  clear hboxa hboxb hbl0 hw0 ha0 hb0 ha1 hb1 ha2 hb2
  go_enter Try.func28, Try.ntmps28
  go_wp2_with fail
  rw [HW.out]
  clear HW
  have hsz0 : (eMachine x.Machine).sz ≤ 1000000000 := by omega
  refine (h_eqMachine x.Machine c0 c1 c2 d0 d1 d2 w0 (HA0.out.below HBL.out) (HB0.out.below HBL.out) hsz0).mono ?_
  rintro e w1 ⟨rfl, hb0⟩
  have HXA' := Lib.hid ((hb0.block B (lt_of_block HXA.out)).trans HXA.out)
  have HXB' := Lib.hid ((hb0.block (B + 1) (lt_of_block HXB.out)).trans HXB.out)
  have HBL' := Lib.hid (below_step HBL.out hb0)
  clear HXA HXB HBL
  have HXA := HXA'
  have HXB := HXB'
  have HBL := HBL'
  clear HXA' HXB' HBL' hb0 hsz0
  have hc3 : w1.cell? ⟨B, 3, none⟩ = some (.int .i64 x.Calls) := cell_of_block HXA.out 3
  have hd3 : w1.cell? ⟨B + 1, 3, none⟩ = some (.int .i64 x.Calls) := cell_of_block HXB.out 3
  have hc4 : w1.cell? ⟨B, 4, none⟩ = some (c3) := cell_of_block HXA.out 4
  have hd4 : w1.cell? ⟨B + 1, 4, none⟩ = some (d3) := cell_of_block HXB.out 4
  go_wp2_with fail
  have hsz2 : (eIntS x.Refuse).sz ≤ 1000000000 := by omega
  refine (h_eqIntS x.Refuse c3 d3 w1 (HA2.out.below HBL.out) (HB2.out.below HBL.out) hsz2).mono ?_
  rintro e w2 ⟨rfl, hb2⟩
  have HXA' := Lib.hid ((hb2.block B (lt_of_block HXA.out)).trans HXA.out)
  have HXB' := Lib.hid ((hb2.block (B + 1) (lt_of_block HXB.out)).trans HXB.out)
  have HBL' := Lib.hid (below_step HBL.out hb2)
  clear HXA HXB HBL
  have HXA := HXA'
  have HXB := HXB'
  have HBL := HBL'
  clear HXA' HXB' HBL' hb2 hsz2
  go_wp2
  go_ret
  exact ⟨rfl, HBL.out⟩
end Tr
end Go.Proofs.Ytcdmijnlpapjaaa

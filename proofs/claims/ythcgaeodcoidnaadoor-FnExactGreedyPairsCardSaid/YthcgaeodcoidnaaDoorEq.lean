/- The laws' comparisons. -/
import Derived.Test.YthcgaeodcoidnaaDoorEnc
import Derived.WalkKit
import Derived.ProofKit
import Derived.BigQuiet
import Derived.Deep.QuietTactic
import Derived.Deep.RegionHeld3
import Derived.Lib.Hide
namespace Go.Proofs.YthcgaeodcoidnaaDoor
open Go.RowKit
namespace Tr
theorem h_eqPair (x : GPair) (w : World) :
    Calls Tryd.prog 46 #[.agg #[.int .i64 x.A, .int .i64 x.B], .agg #[.int .i64 x.A, .int .i64 x.B]] w (TrueP w) := by
  have hq0 : (x.A != x.A) = false := by simp
  have hq1 : (x.B != x.B) = false := by simp
  generalize x.A = y0 at *
  generalize x.B = y1 at *
  go_enter Tryd.func46, Tryd.ntmps46
  go_wp2
  go_ret
  exact ⟨rfl, ((Below.refl _ _).alloc (Nat.le_refl _) _).alloc (by simp) _⟩
theorem h_eqPairS (l : List GPair) (a b : Value) (w : World) (ha : Rd w (ePairS l) [a]) (hb : Rd w (ePairS l) [b]) (hs : (ePairS l).sz ≤ 1000000000) :
    Calls Tryd.prog 22 #[a, b] w (TrueP w) := by
  obtain ⟨bs1, ha⟩ := ha
  obtain ⟨bs2, hb⟩ := hb
  have hl := sz_len hs
  obtain ⟨A, n, c1, rfl, hn, _, _, hA⟩ := read_rowD (E := ePair) (k := 2) ha (fun _ => rfl)
  obtain ⟨B, n2, c2, rfl, hn2, _, _, hB⟩ := read_rowD (E := ePair) (k := 2) hb (fun _ => rfl)
  obtain rfl : n2 = n := by rw [hn, hn2]
  have HA := Lib.hid hA
  have HB := Lib.hid hB
  have HS := Lib.hid hs
  have hl' : (n2 : Int) ≤ 1000000000 := by omega
  clear ha hb hA hB hn2 hn hl hs
  go_enter Tryd.func22, Tryd.ntmps22
  go_wp2
  go_loopw [5] (fun c wr => ∃ (i : Nat), i ≤ n2 ∧ c = .int .i64 i ∧ Hid (Below w.heap.size w wr)) (fun c _ => n2 - (intOf c).toNat)
  case atStart => exact ⟨0, Nat.zero_le _, rfl, Below.refl _ _⟩
  case round =>
    obtain ⟨i, hi, rfl, HBL⟩ := hrel
    by_cases hlt : (i : Int) < n2
    · have hi0 : (0 : Int) ≤ i := by omega
      obtain ⟨g, o, t, us, b1, rfl, hx, hus, hca, ho, _⟩ := HA.out i (by omega)
      obtain ⟨g2, o2, t2, us2, b2, rfl, hy, hus2, hcb, ho2, _⟩ := HB.out i (by omega)
      obtain rfl : t2 = t := Option.some.inj (hy.symm.trans hx)
      have hsx := sz_elem HS.out hx
      obtain rfl := inv_Pair ho
      obtain rfl := inv_Pair ho2
      have HQ : Hid (∀ w', Below w.heap.size w w' → Calls Tryd.prog 46 #[.agg #[.int .i64 t2.A, .int .i64 t2.B], .agg #[.int .i64 t2.A, .int .i64 t2.B]] w' (TrueP w)) := fun w' hb => (h_eqPair t2 w').mono (fun _ _ h => ⟨h.1, below_step hb h.2⟩)
      have HC0 : Hid (∀ w', Below w.heap.size w w' → w'.cell? ⟨g, o + i * 2, none⟩ = some (.int .i64 t2.A)) := fun w' hb => cell_below hb (hca 0 (by omega))
      have HD0 : Hid (∀ w', Below w.heap.size w w' → w'.cell? ⟨g2, o2 + i * 2, none⟩ = some (.int .i64 t2.A)) := fun w' hb => cell_below hb (hcb 0 (by omega))
      have HC1 : Hid (∀ w', Below w.heap.size w w' → w'.cell? ⟨g, o + i * 2 + 1, none⟩ = some (.int .i64 t2.B)) := fun w' hb => cell_below hb (hca 1 (by omega))
      have HD1 : Hid (∀ w', Below w.heap.size w w' → w'.cell? ⟨g2, o2 + i * 2 + 1, none⟩ = some (.int .i64 t2.B)) := fun w' hb => cell_below hb (hcb 1 (by omega))
      have hbl := HBL.out
      clear hca hcb hx hy ho ho2 hsx
      go_wp2_with fail
      go_region_held3 (fun w' => w'.cell? ⟨g, o + i * 2, none⟩ = some (.int .i64 t2.A) ∧ w'.cell? ⟨g2, o2 + i * 2, none⟩ = some (.int .i64 t2.A) ∧ w'.cell? ⟨g, o + i * 2 + 1, none⟩ = some (.int .i64 t2.B) ∧ w'.cell? ⟨g2, o2 + i * 2 + 1, none⟩ = some (.int .i64 t2.B) ∧ Below w.heap.size w w') (first | (have hz := hbl.drew; exact ⟨HC0.out _ hz, HD0.out _ hz, HC1.out _ hz, HD1.out _ hz, hz⟩) | (refine ⟨HC0.out _ ?_, HD0.out _ ?_, HC1.out _ ?_, HD1.out _ ?_, ?_⟩ <;> assumption)) ((go_at_call 46; refine (HQ.out _ (by first | exact hbl.drew | assumption)).mono ?_; rintro e w' ⟨rfl, hb'⟩))
      go_wp2
      go_roundw
      case rel => exact ⟨i + 1, by omega, by go_num, by assumption⟩
      case measure => simp [intOf]; omega
    · go_wp2
      go_ret
      exact ⟨rfl, HBL.out⟩
theorem h_eqSpan (x : GSpan) (w : World) :
    Calls Tryd.prog 47 #[.agg #[.int .i64 x.Page, .int .i64 x.Class, .int .i64 x.Bits], .agg #[.int .i64 x.Page, .int .i64 x.Class, .int .i64 x.Bits]] w (TrueP w) := by
  have hq0 : (x.Page != x.Page) = false := by simp
  have hq1 : (x.Class != x.Class) = false := by simp
  have hq2 : (x.Bits != x.Bits) = false := by simp
  generalize x.Page = y0 at *
  generalize x.Class = y1 at *
  generalize x.Bits = y2 at *
  go_enter Tryd.func47, Tryd.ntmps47
  go_wp2
  go_ret
  exact ⟨rfl, ((Below.refl _ _).alloc (Nat.le_refl _) _).alloc (by simp) _⟩
theorem h_eqSpanS (l : List GSpan) (a b : Value) (w : World) (ha : Rd w (eSpanS l) [a]) (hb : Rd w (eSpanS l) [b]) (hs : (eSpanS l).sz ≤ 1000000000) :
    Calls Tryd.prog 23 #[a, b] w (TrueP w) := by
  obtain ⟨bs1, ha⟩ := ha
  obtain ⟨bs2, hb⟩ := hb
  have hl := sz_len hs
  obtain ⟨A, n, c1, rfl, hn, _, _, hA⟩ := read_rowD (E := eSpan) (k := 3) ha (fun _ => rfl)
  obtain ⟨B, n2, c2, rfl, hn2, _, _, hB⟩ := read_rowD (E := eSpan) (k := 3) hb (fun _ => rfl)
  obtain rfl : n2 = n := by rw [hn, hn2]
  have HA := Lib.hid hA
  have HB := Lib.hid hB
  have HS := Lib.hid hs
  have hl' : (n2 : Int) ≤ 1000000000 := by omega
  clear ha hb hA hB hn2 hn hl hs
  go_enter Tryd.func23, Tryd.ntmps23
  go_wp2
  go_loopw [5] (fun c wr => ∃ (i : Nat), i ≤ n2 ∧ c = .int .i64 i ∧ Hid (Below w.heap.size w wr)) (fun c _ => n2 - (intOf c).toNat)
  case atStart => exact ⟨0, Nat.zero_le _, rfl, Below.refl _ _⟩
  case round =>
    obtain ⟨i, hi, rfl, HBL⟩ := hrel
    by_cases hlt : (i : Int) < n2
    · have hi0 : (0 : Int) ≤ i := by omega
      obtain ⟨g, o, t, us, b1, rfl, hx, hus, hca, ho, _⟩ := HA.out i (by omega)
      obtain ⟨g2, o2, t2, us2, b2, rfl, hy, hus2, hcb, ho2, _⟩ := HB.out i (by omega)
      obtain rfl : t2 = t := Option.some.inj (hy.symm.trans hx)
      have hsx := sz_elem HS.out hx
      obtain rfl := inv_Span ho
      obtain rfl := inv_Span ho2
      have HQ : Hid (∀ w', Below w.heap.size w w' → Calls Tryd.prog 47 #[.agg #[.int .i64 t2.Page, .int .i64 t2.Class, .int .i64 t2.Bits], .agg #[.int .i64 t2.Page, .int .i64 t2.Class, .int .i64 t2.Bits]] w' (TrueP w)) := fun w' hb => (h_eqSpan t2 w').mono (fun _ _ h => ⟨h.1, below_step hb h.2⟩)
      have HC0 : Hid (∀ w', Below w.heap.size w w' → w'.cell? ⟨g, o + i * 3, none⟩ = some (.int .i64 t2.Page)) := fun w' hb => cell_below hb (hca 0 (by omega))
      have HD0 : Hid (∀ w', Below w.heap.size w w' → w'.cell? ⟨g2, o2 + i * 3, none⟩ = some (.int .i64 t2.Page)) := fun w' hb => cell_below hb (hcb 0 (by omega))
      have HC1 : Hid (∀ w', Below w.heap.size w w' → w'.cell? ⟨g, o + i * 3 + 1, none⟩ = some (.int .i64 t2.Class)) := fun w' hb => cell_below hb (hca 1 (by omega))
      have HD1 : Hid (∀ w', Below w.heap.size w w' → w'.cell? ⟨g2, o2 + i * 3 + 1, none⟩ = some (.int .i64 t2.Class)) := fun w' hb => cell_below hb (hcb 1 (by omega))
      have HC2 : Hid (∀ w', Below w.heap.size w w' → w'.cell? ⟨g, o + i * 3 + 2, none⟩ = some (.int .i64 t2.Bits)) := fun w' hb => cell_below hb (hca 2 (by omega))
      have HD2 : Hid (∀ w', Below w.heap.size w w' → w'.cell? ⟨g2, o2 + i * 3 + 2, none⟩ = some (.int .i64 t2.Bits)) := fun w' hb => cell_below hb (hcb 2 (by omega))
      have hbl := HBL.out
      clear hca hcb hx hy ho ho2 hsx
      go_wp2_with fail
      go_region_held3 (fun w' => w'.cell? ⟨g, o + i * 3, none⟩ = some (.int .i64 t2.Page) ∧ w'.cell? ⟨g2, o2 + i * 3, none⟩ = some (.int .i64 t2.Page) ∧ w'.cell? ⟨g, o + i * 3 + 1, none⟩ = some (.int .i64 t2.Class) ∧ w'.cell? ⟨g2, o2 + i * 3 + 1, none⟩ = some (.int .i64 t2.Class) ∧ w'.cell? ⟨g, o + i * 3 + 2, none⟩ = some (.int .i64 t2.Bits) ∧ w'.cell? ⟨g2, o2 + i * 3 + 2, none⟩ = some (.int .i64 t2.Bits) ∧ Below w.heap.size w w') (first | (have hz := hbl.drew; exact ⟨HC0.out _ hz, HD0.out _ hz, HC1.out _ hz, HD1.out _ hz, HC2.out _ hz, HD2.out _ hz, hz⟩) | (refine ⟨HC0.out _ ?_, HD0.out _ ?_, HC1.out _ ?_, HD1.out _ ?_, HC2.out _ ?_, HD2.out _ ?_, ?_⟩ <;> assumption)) ((go_at_call 47; refine (HQ.out _ (by first | exact hbl.drew | assumption)).mono ?_; rintro e w' ⟨rfl, hb'⟩))
      go_wp2
      go_roundw
      case rel => exact ⟨i + 1, by omega, by go_num, by assumption⟩
      case measure => simp [intOf]; omega
    · go_wp2
      go_ret
      exact ⟨rfl, HBL.out⟩
end Tr
end Go.Proofs.YthcgaeodcoidnaaDoor

/- The laws' helpers over a list of whole numbers that a call has made: compared, marked, and the marks found again. -/
import Derived.Test.YtlkkiopjknbomaaOwn
import Derived.Deep.AppendLies
import Derived.Deep.QuietTactic
import Derived.BigQuiet
namespace Go.Proofs.Ytlkkiopjknbomaa
open Go.RowKit
namespace Il
open Own
/-- whole numbers as cells -/
def ints (l : List Int) : List Value := l.map (Value.int .i64)
theorem ints_length (l : List Int) : (ints l).length = l.length := by simp [ints]
theorem ints_append (a b : List Int) : ints (a ++ b) = ints a ++ ints b := by simp [ints]
theorem ints_at {l : List Int} {i : Nat} (h : i < l.length) : (ints l)[i]? = some (.int .i64 l[i]) := by simp [ints, h]
theorem own_form {w : World} {base : Nat} {e : TypeId} {v : Value} {n : Nat} {xs : List Value} (h : w.ownsRow base e 1 v n xs) (h0 : 0 < n) : ∃ g c, v = .slice (some ⟨g, 0, none⟩) n c ∧ base ≤ g ∧ g < w.heap.size := by
  rcases h.2 with ⟨rfl, rfl⟩ | ⟨g, cap, cur, rfl, hb, hg, _⟩
  · omega
  · exact ⟨g, cap, rfl, hb, (Array.getElem?_eq_some_iff.1 hg).1⟩
theorem own_slice {w : World} {base : Nat} {e : TypeId} {size : Nat} {v : Value} {n : Nat} {xs : List Value} (h : w.ownsRow base e size v n xs) : ∃ a c, v = .slice a n c := by
  rcases h.2 with ⟨rfl, rfl⟩ | ⟨g, cap, cur, rfl, _⟩
  · exact ⟨_, _, rfl⟩
  · exact ⟨_, _, rfl⟩
theorem own_kept {w w' : World} {base : Nat} {e : TypeId} {size : Nat} {v : Value} {n : Nat} {xs : List Value} (h : w.ownsRow base e size v n xs) (hb : Below w.heap.size w w') : w'.ownsRow base e size v n xs :=
  h.kept (row := none) ⟨hb.os, hb.tape, hb.output, hb.size, fun k hk _ => hb.block k hk⟩ (by cases hv : v.ownBlock <;> simp)
theorem own_apart {w w' : World} {base b2 : Nat} {e : TypeId} {size : Nat} {v v2 : Value} {n : Nat} {xs : List Value} (h : w.ownsRow base e size v n xs) (hg : w.grownBy w' v2.ownBlock) (hlt : ∀ k, v.ownBlock = some k → k < b2) (hge : ∀ k, v2.ownBlock = some k → b2 ≤ k) : w'.ownsRow base e size v n xs :=
  h.kept hg (by
    cases hv : v.ownBlock with
    | none => exact .inl rfl
    | some x => exact .inr (fun e => by have h1 := hlt x hv; have h2 := hge x e.symm; omega))
theorem below_drewN {B : Nat} {a w : World} (h : Below B a w) (n : Nat) : Below B a (w.drewN n) := ⟨h.os, h.tape, h.output, h.size, h.block⟩

def SameP (w : World) (e : Ending) (w' : World) : Prop := e = .returned (.bool true) ∧ ∃ m, w' = w.drewN m
theorem eqInts (l : List Int) (a b : Value) (ba bb : Nat) (w : World) (ha : w.ownsRow ba 3 1 a l.length (ints l)) (hb : w.ownsRow bb 3 1 b l.length (ints l)) (hl : l.length ≤ 1000000) :
    Calls Try.prog 27 #[a, b] w (SameP w) := by
  by_cases h0 : l.length = 0
  · obtain ⟨a1, c1, rfl⟩ : ∃ a1 c1, a = .slice a1 0 c1 := by obtain ⟨x, y, e⟩ := own_slice ha; rw [h0] at e; exact ⟨x, y, e⟩
    obtain ⟨a2, c2, rfl⟩ : ∃ a1 c1, b = .slice a1 0 c1 := by obtain ⟨x, y, e⟩ := own_slice hb; rw [h0] at e; exact ⟨x, y, e⟩
    clear ha hb h0
    go_enter Try.func27, Try.ntmps27
    go_wp2
    go_loopw [5] (fun c wr => c = .int .i64 0 ∧ wr = w) (fun _ _ => 0)
    case atStart => exact ⟨rfl, rfl⟩
    case round =>
      obtain ⟨rfl, rfl⟩ := hrel
      go_wp2
      go_ret
      exact ⟨rfl, 0, rfl⟩
  · obtain ⟨g, c1, rfl, _, _⟩ := own_form ha (by omega)
    obtain ⟨k, c2, rfl, _, _⟩ := own_form hb (by omega)
    have HA := Lib.hid ha; clear ha
    have HB := Lib.hid hb; clear hb
    generalize hn : l.length = n at *
    have HN := Lib.hid hn; clear hn
    have hn' : (n : Int) ≤ 1000000 := by omega
    go_enter Try.func27, Try.ntmps27
    go_wp2
    go_loopw [5] (fun c wr => ∃ (i m : Nat), i ≤ n ∧ c = .int .i64 i ∧ wr = w.drewN m) (fun c _ => n - (intOf c).toNat)
    case atStart => exact ⟨0, 0, Nat.zero_le _, rfl, rfl⟩
    case round =>
      obtain ⟨i, m, hi, rfl, rfl⟩ := hrel
      by_cases hlt : (i : Int) < n
      · have hi0 : (0 : Int) ≤ i := by omega
        have hca := HA.out.cellAt i (by omega)
        have hcb := HB.out.cellAt i (by omega)
        rw [ints_at (by rw [HN.out]; omega)] at hca hcb
        generalize l[i]'(by rw [HN.out]; omega) = t at hca hcb
        have htt : (t != t) = false := by simp
        go_wp2_with fail
        go_quiet (fail)
        go_wp2
        go_roundw
        case rel => exact ⟨i + 1, _, by omega, by go_num, rfl⟩
        case measure => simp [intOf]; omega
      · go_wp2
        go_ret
        exact ⟨rfl, m, rfl⟩

/-- the marks k, k + 1, .. -/
def marks (k n : Nat) : List Int := (List.range n).map fun j => ((k + j : Nat) : Int)
theorem marks_length (k n : Nat) : (marks k n).length = n := by simp [marks]
theorem marks_at (k n i : Nat) (h : i < n) : (marks k n)[i]'(by rw [marks_length]; exact h) = ((k + i : Nat) : Int) := by simp [marks]
theorem marks_set (k i : Nat) (l : List Int) (h : i < l.length) : (ints (marks k i ++ l.drop i)).set i (.int .i64 ((k : Int) + (i : Int))) = ints (marks k (i + 1) ++ l.drop (i + 1)) := by
  have e : marks k (i + 1) = marks k i ++ [((k + i : Nat) : Int)] := by simp [marks, List.range_succ]
  rw [e, List.drop_eq_getElem_cons h]
  simp only [ints, List.map_append, List.map_cons, List.append_assoc, List.cons_append, List.nil_append]
  rw [List.set_append_right _ _ (by simp [marks])]
  simp [marks]
theorem grown_then {w w1 w2 : World} {r : Option Nat} (h : w.grownBy w1 r) (h2 : w1.grownBy w2 r) : w.grownBy w2 r :=
  ⟨h2.os.trans h.os, h2.tape.trans h.tape, h2.output.trans h.output, Nat.le_trans h.size h2.size, fun k hk hr => (h2.block k (Nat.lt_of_lt_of_le hk h.size) hr).trans (h.block k hk hr)⟩

def MarkedP (k : Nat) (l : List Int) (v : Value) (base : Nat) (w : World) (e : Ending) (w' : World) : Prop :=
  e = .returned (.int .i64 ((k : Int) + (l.length : Int))) ∧ w'.ownsRow base 3 1 v l.length (ints (marks k l.length)) ∧ w.grownBy w' v.ownBlock
theorem markInts (l : List Int) (v : Value) (base k : Nat) (w : World) (ho : w.ownsRow base 3 1 v l.length (ints l)) (hl : l.length ≤ 1000000) (hk : k ≤ 1000000) :
    Calls Try.prog 28 #[v, .int .i64 k] w (MarkedP k l v base w) := by
  have hk9 : (k : Int) ≤ 1000000 := by omega
  have hkp : (0 : Int) ≤ k := by omega
  by_cases h0 : l.length = 0
  · obtain rfl : l = [] := List.eq_nil_of_length_eq_zero h0
    obtain ⟨a1, c1, rfl⟩ := own_slice ho
    have HO := Lib.hid ho; clear ho
    simp only [List.length_nil] at *
    go_enter Try.func28, Try.ntmps28
    go_wp2
    go_loopw [1, 5] (fun q c wr => q = .int .i64 k ∧ c = .int .i64 0 ∧ wr = w) (fun _ _ _ => 0)
    case atStart => exact ⟨rfl, rfl, rfl⟩
    case round =>
      obtain ⟨rfl, rfl, rfl⟩ := hrel
      go_wp2
      go_ret
      exact ⟨by simp, HO.out, ⟨rfl, rfl, rfl, Nat.le_refl _, fun _ _ _ => rfl⟩⟩
  · obtain ⟨g, c1, rfl, hg0, hg1⟩ := own_form ho (by omega)
    have HO := Lib.hid ho; clear ho
    generalize hn : l.length = n at *
    have HN := Lib.hid hn; clear hn
    have hn' : (n : Int) ≤ 1000000 := by omega
    go_enter Try.func28, Try.ntmps28
    go_wp2
    go_loopw [1, 5] (fun q c wr => ∃ (i : Nat), i ≤ n ∧ c = .int .i64 i ∧ q = .int .i64 ((k : Int) + (i : Int)) ∧ Hid (wr.ownsRow base 3 1 (.slice (some ⟨g, 0, none⟩) n c1) n (ints (marks k i ++ l.drop i))) ∧ Hid (w.grownBy wr (some g))) (fun _ c _ => n - (intOf c).toNat)
    case atStart => exact ⟨0, Nat.zero_le _, rfl, by simp, by show World.ownsRow _ _ _ _ _ _ _; simpa [marks] using HO.out, ⟨rfl, rfl, rfl, Nat.le_refl _, fun _ _ _ => rfl⟩⟩
    case round =>
      obtain ⟨i, hi, rfl, rfl, HR, HG⟩ := hrel
      by_cases hlt : (i : Int) < n
      · have hi0 : (0 : Int) ≤ i := by omega
        have hc : ∃ y, wr.cell? ⟨g, i, none⟩ = some y := by
          rw [HR.out.cellAt i (by omega)]
          exact ⟨_, List.getElem?_eq_getElem (by simp [ints_length, marks_length]; have := HN.out; omega)⟩
        obtain ⟨y, hc⟩ := hc
        have hf := HR.out.frozenAt i
        have hst := HR.out.stored i (.int .i64 ((k : Int) + (i : Int)))
        rw [marks_set k i l (by rw [HN.out]; omega)] at hst
        have HR2 := Lib.hid hst.1
        have HG2 := Lib.hid (grown_then HG.out hst.2)
        clear hst
        go_wp2
        go_roundw
        case rel => exact ⟨i + 1, by omega, by go_num, by go_num, HR2.out, HG2.out⟩
        case measure => simp [intOf]; omega
      · obtain rfl : i = n := by omega
        have hfin : Hid (MarkedP k l (.slice (some ⟨g, 0, none⟩) i c1) base w (.returned (.int .i64 ((k : Int) + (i : Int)))) wr) := by
          refine ⟨by rw [HN.out], ?_, HG.out⟩
          have := HR.out
          rw [List.drop_of_length_le (by rw [HN.out]; omega), List.append_nil] at this
          rw [HN.out]; exact this
        go_wp2
        go_ret
        exact hfin.out

def HeldP (k : Nat) (n : Nat) (w : World) (e : Ending) (w' : World) : Prop := e = .returned (.int .i64 ((k : Int) + (n : Int))) ∧ ∃ m, w' = w.drewN m
theorem heldInts (n : Nat) (v : Value) (base k : Nat) (w : World) (ho : w.ownsRow base 3 1 v n (ints (marks k n))) (hl : n ≤ 1000000) (hk : k ≤ 1000000) :
    Calls Try.prog 33 #[v, .int .i64 k] w (HeldP k n w) := by
  have hk9 : (k : Int) ≤ 1000000 := by omega
  have hkp : (0 : Int) ≤ k := by omega
  by_cases h0 : n = 0
  · subst h0
    obtain ⟨a1, c1, rfl⟩ := own_slice ho
    clear ho
    go_enter Try.func33, Try.ntmps33
    go_wp2
    go_loopw [1, 5] (fun q c wr => q = .int .i64 k ∧ c = .int .i64 0 ∧ wr = w) (fun _ _ _ => 0)
    case atStart => exact ⟨rfl, rfl, rfl⟩
    case round =>
      obtain ⟨rfl, rfl, rfl⟩ := hrel
      go_wp2
      go_ret
      exact ⟨by simp, 0, rfl⟩
  · obtain ⟨g, c1, rfl, hg0, hg1⟩ := own_form ho (by omega)
    have HO := Lib.hid ho; clear ho
    have hn' : (n : Int) ≤ 1000000 := by omega
    go_enter Try.func33, Try.ntmps33
    go_wp2
    go_loopw [1, 5] (fun q c wr => ∃ (i m : Nat), i ≤ n ∧ c = .int .i64 i ∧ q = .int .i64 ((k : Int) + (i : Int)) ∧ wr = w.drewN m) (fun _ c _ => n - (intOf c).toNat)
    case atStart => exact ⟨0, 0, Nat.zero_le _, rfl, by simp, rfl⟩
    case round =>
      obtain ⟨i, m, hi, rfl, rfl, rfl⟩ := hrel
      by_cases hlt : (i : Int) < n
      · have hi0 : (0 : Int) ≤ i := by omega
        have hca : w.cell? ⟨g, i, none⟩ = some (.int .i64 ((k : Int) + (i : Int))) := by
          rw [HO.out.cellAt i (by omega), ints_at (by rw [marks_length]; omega), marks_at k n i (by omega)]
          simp
        have htt : (((k : Int) + (i : Int)) != ((k : Int) + (i : Int))) = false := by simp
        go_wp2
        go_roundw
        case rel => exact ⟨i + 1, _, by omega, by go_num, by go_num, rfl⟩
        case measure => simp [intOf]; omega
      · obtain rfl : i = n := by omega
        go_wp2
        go_ret
        exact ⟨rfl, m, rfl⟩
def Marked1P (l : List Int) (v : Value) (base : Nat) (w : World) (e : Ending) (w' : World) : Prop :=
  e = .returned (.int .i64 (1 + (l.length : Int))) ∧ w'.ownsRow base 3 1 v l.length (ints (marks 1 l.length)) ∧ w.grownBy w' v.ownBlock
theorem markInts1 (l : List Int) (v : Value) (base : Nat) (w : World) (ho : w.ownsRow base 3 1 v l.length (ints l)) (hl : l.length ≤ 1000000) :
    Calls Try.prog 28 #[v, .int .i64 1] w (Marked1P l v base w) :=
  (markInts l v base 1 w ho hl (by omega)).mono fun _ _ h => h
def Held1P (n : Nat) (w : World) (e : Ending) (w' : World) : Prop := e = .returned (.int .i64 (1 + (n : Int))) ∧ ∃ m, w' = w.drewN m
theorem heldInts1 (n : Nat) (v : Value) (base : Nat) (w : World) (ho : w.ownsRow base 3 1 v n (ints (marks 1 n))) (hl : n ≤ 1000000) :
    Calls Try.prog 33 #[v, .int .i64 1] w (Held1P n w) :=
  (heldInts n v base 1 w ho hl (by omega)).mono fun _ _ h => h
end Il
end Go.Proofs.Ytlkkiopjknbomaa

/- The laws' helpers over a list of strings that a call has made: compared, marked, and the marks found again. -/
import Derived.Test.YtjgolnmbnkgbdaaDoorMark
import Derived.Test.YtjgolnmbnkgbdaaDoorFields
import Derived.Deep.QuietTactic
import Derived.BigQuiet
import Derived.Deep.RegionHeld3
namespace Go.Proofs.YtjgolnmbnkgbdaaDoor
open Go.RowKit
namespace Sl
open Own Spl Mk
theorem own_form {w : World} {base : Nat} {e : TypeId} {v : Value} {n : Nat} {xs : List Value} (h : w.ownsRow base e 1 v n xs) (h0 : 0 < n) : ∃ g c, v = .slice (some ⟨g, 0, none⟩) n c ∧ base ≤ g ∧ g < w.heap.size := by
  rcases h.2 with ⟨rfl, rfl⟩ | ⟨g, cap, cur, rfl, hb, hg, _⟩
  · omega
  · exact ⟨g, cap, rfl, hb, (Array.getElem?_eq_some_iff.1 hg).1⟩
theorem str_at {l : List (List UInt8)} {i : Nat} (h : i < l.length) : (strs l)[i]? = some (.string ⟨(l[i]).toArray⟩) := by simp [strs, h]

theorem own_slice' {w : World} {base : Nat} {e : TypeId} {size : Nat} {v : Value} {n : Nat} {xs : List Value} (h : w.ownsRow base e size v n xs) : ∃ a c, v = .slice a n c := by
  rcases h.2 with ⟨rfl, rfl⟩ | ⟨g, cap, cur, rfl, _⟩
  · exact ⟨_, _, rfl⟩
  · exact ⟨_, _, rfl⟩

def SameP (w : World) (e : Ending) (w' : World) : Prop := e = .returned (.bool true) ∧ ∃ m, w' = w.drewN m
theorem sameStrs (l : List (List UInt8)) (a b : Value) (ba bb : Nat) (w : World) (ha : w.ownsRow ba 9 1 a l.length (strs l)) (hb : w.ownsRow bb 9 1 b l.length (strs l)) (hl : l.length ≤ 1000000) :
    Calls Tryd.prog 18 #[a, b] w (SameP w) := by
  by_cases h0 : l.length = 0
  · obtain ⟨a1, c1, rfl⟩ : ∃ a1 c1, a = .slice a1 0 c1 := by obtain ⟨x, y, e⟩ := own_slice' ha; rw [h0] at e; exact ⟨x, y, e⟩
    obtain ⟨a2, c2, rfl⟩ : ∃ a1 c1, b = .slice a1 0 c1 := by obtain ⟨x, y, e⟩ := own_slice' hb; rw [h0] at e; exact ⟨x, y, e⟩
    clear ha hb h0
    go_enter Tryd.func18, Tryd.ntmps18
    go_wp2
    go_loopw [5] (fun c wr => c = .int .i64 0 ∧ wr = w) (fun _ _ => 0)
    case atStart => exact ⟨rfl, rfl⟩
    case round =>
      obtain ⟨rfl, rfl⟩ := hrel
      go_wp2
      go_ret
      exact ⟨rfl, 0, rfl⟩
  · obtain ⟨g, c1, rfl, _, _⟩ := own_form ha (by omega)
    obtain ⟨k, c2, rfl, _, _⟩ := own_form hb (by omega)
    have HA := Lib.hid ha; clear ha
    have HB := Lib.hid hb; clear hb
    generalize hn : l.length = n at *
    have HN := Lib.hid hn; clear hn
    have hn' : (n : Int) ≤ 1000000 := by omega
    go_enter Tryd.func18, Tryd.ntmps18
    go_wp2
    go_loopw [5] (fun c wr => ∃ (i m : Nat), i ≤ n ∧ c = .int .i64 i ∧ wr = w.drewN m) (fun c _ => n - (intOf c).toNat)
    case atStart => exact ⟨0, 0, Nat.zero_le _, rfl, rfl⟩
    case round =>
      obtain ⟨i, m, hi, rfl, rfl⟩ := hrel
      by_cases hlt : (i : Int) < n
      · have hi0 : (0 : Int) ≤ i := by omega
        have hca := HA.out.cellAt i (by omega)
        have hcb := HB.out.cellAt i (by omega)
        rw [str_at (by rw [HN.out]; omega)] at hca hcb
        generalize ByteArray.mk ((l[i]'(by rw [HN.out]; omega)).toArray) = t at hca hcb
        have htt : (t.toList == t.toList) = true := by simp
        go_wp2_with fail
        go_quiet (fail)
        go_wp2
        go_roundw
        case rel => exact ⟨i + 1, _, by omega, by go_num, rfl⟩
        case measure => simp [intOf]; omega
      · go_wp2
        go_ret
        exact ⟨rfl, m, rfl⟩

/-- the marks of k, k + 1, .. -/
def marks (k n : Nat) : List (List UInt8) := (List.range n).map fun j => markL (k + j)
theorem marks_length (k n : Nat) : (marks k n).length = n := by simp [marks]
theorem marks_at (k n i : Nat) (h : i < n) : (marks k n)[i]'(by rw [marks_length]; exact h) = markL (k + i) := by simp [marks]
theorem marks_set (k i : Nat) (l : List (List UInt8)) (h : i < l.length) : (strs (marks k i ++ l.drop i)).set i (.string ⟨(markL (k + i)).toArray⟩) = strs (marks k (i + 1) ++ l.drop (i + 1)) := by
  have e : marks k (i + 1) = marks k i ++ [markL (k + i)] := by simp [marks, List.range_succ]
  rw [e, List.drop_eq_getElem_cons h]
  simp only [strs, List.map_append, List.map_cons, List.append_assoc, List.cons_append, List.nil_append]
  rw [List.set_append_right _ _ (by simp [marks])]
  simp [marks]
theorem own_kept {w w' : World} {base : Nat} {e : TypeId} {size : Nat} {v : Value} {n : Nat} {xs : List Value} (h : w.ownsRow base e size v n xs) (hb : Below w.heap.size w w') : w'.ownsRow base e size v n xs :=
  h.kept (row := none) ⟨hb.os, hb.tape, hb.output, hb.size, fun k hk _ => hb.block k hk⟩ (by cases hv : v.ownBlock <;> simp)
theorem grown_then {w w1 w2 : World} {r : Option Nat} (h : w.grownBy w1 r) (h2 : w1.grownBy w2 r) : w.grownBy w2 r :=
  ⟨h2.os.trans h.os, h2.tape.trans h.tape, h2.output.trans h.output, Nat.le_trans h.size h2.size, fun k hk hr => (h2.block k (Nat.lt_of_lt_of_le hk h.size) hr).trans (h.block k hk hr)⟩

def MarkedP (k : Nat) (l : List (List UInt8)) (v : Value) (base : Nat) (w : World) (e : Ending) (w' : World) : Prop :=
  e = .returned (.int .i64 ((k : Int) + (l.length : Int))) ∧ w'.ownsRow base 9 1 v l.length (strs (marks k l.length)) ∧ w.grownBy w' v.ownBlock
def HeldP (k : Nat) (n : Nat) (w : World) (e : Ending) (w' : World) : Prop :=
  e = .returned (.int .i64 ((k : Int) + (n : Int))) ∧ Below w.heap.size w w'
def Marked1P (l : List (List UInt8)) (v : Value) (base : Nat) (w : World) (e : Ending) (w' : World) : Prop :=
  e = .returned (.int .i64 (1 + (l.length : Int))) ∧ w'.ownsRow base 9 1 v l.length (strs (marks 1 l.length)) ∧ w.grownBy w' v.ownBlock
def Held1P (n : Nat) (w : World) (e : Ending) (w' : World) : Prop := e = .returned (.int .i64 (1 + (n : Int))) ∧ Below w.heap.size w w'
end Sl
end Go.Proofs.YtjgolnmbnkgbdaaDoor

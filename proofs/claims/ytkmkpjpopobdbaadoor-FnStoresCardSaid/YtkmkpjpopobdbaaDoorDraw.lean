/- The cursor of the drawn inputs: what each of its functions returns, and that it writes into the cursor's own block alone. -/
import Derived.Test.YtkmkpjpopobdbaaDoorRows
import Derived.WalkKit
import Derived.ProofKit
import Derived.OpenShut
import Derived.Below
import Derived.Deep.QuietTactic
import Derived.BigQuiet
import Derived.Outline
import Derived.Lib.Hide
namespace Go.Proofs.YtkmkpjpopobdbaaDoor
open Go.RowKit
namespace Dr
/-- a slice of integers that came in: nil, or a row of cells that read as the numbers 'zs' -/
def IsRow (k : IntKind) (w : World) (a : Option Addr) (len cap : Nat) (zs : List Int) : Prop :=
  (a = none ∧ len = 0 ∧ cap = 0 ∧ zs = []) ∨
  ∃ x, a = some x ∧ len ≤ cap ∧ cap ≤ maxLen ∧ zs.length = cap ∧ (∀ i, i < zs.length → w.cell? (x.add i) = some (.int k (zs.getD i 0))) ∧ ∀ n ∈ zs, (Lit.int k n).wf = true

/-- the cursor's block k, over the bytes that came in -/
structure Src (w : World) (k : Nat) (a : Option Addr) (len cap : Nat) (zs : List Int) : Prop where
  cur : ∃ (i : Nat) (h : Int), i ≤ len ∧ (Lit.int .i64 h).wf = true ∧ w.heap[k]? = some (.cells #[.slice a len cap, .int .i64 i, .int .i64 h] 91 (0, 0))
  row : IsRow .u8 w a len cap zs
  below : ∀ x, a = some x → 0 < cap → x.block < k

theorem i64_and255 (n : Int) : bits .and .i64 n 255 = n % 256 := by
  have h1 : (BitVec.ofInt 64 255).toNat = 2 ^ 8 - 1 := by decide
  have key : (BitVec.ofInt 64 n &&& BitVec.ofInt 64 255).toNat = (n % ((2 ^ 64 : Nat) : Int)).toNat % 2 ^ 8 := by
    rw [BitVec.toNat_and, BitVec.toNat_ofInt, h1, Nat.and_two_pow_sub_one_eq_mod]
  show IntKind.i64.wrap ((BitVec.ofInt 64 n &&& BitVec.ofInt 64 255).toNat : Nat) = n % 256
  rw [key, IntKind.wrap_i64]
  omega
theorem i64_and30 (n : Int) : bits .and .i64 n 1073741823 = n % 1073741824 := by
  have h1 : (BitVec.ofInt 64 1073741823).toNat = 2 ^ 30 - 1 := by decide
  have key : (BitVec.ofInt 64 n &&& BitVec.ofInt 64 1073741823).toNat = (n % ((2 ^ 64 : Nat) : Int)).toNat % 2 ^ 30 := by
    rw [BitVec.toNat_and, BitVec.toNat_ofInt, h1, Nat.and_two_pow_sub_one_eq_mod]
  show IntKind.i64.wrap ((BitVec.ofInt 64 n &&& BitVec.ofInt 64 1073741823).toNat : Nat) = n % 1073741824
  rw [key, IntKind.wrap_i64]
  omega
theorem and255 (n : Int) : 0 ≤ bits .and .i64 n 255 ∧ bits .and .i64 n 255 ≤ 255 := by rw [i64_and255]; omega

theorem IsRow.of_block {k : IntKind} {w w' : World} {a : Option Addr} {len cap : Nat} {zs : List Int} (h : IsRow k w a len cap zs) (hb : ∀ x, a = some x → 0 < cap → w'.heap[x.block]? = w.heap[x.block]?) : IsRow k w' a len cap zs := by
  rcases h with h | ⟨x, rfl, h1, h2, h3, h4, h5⟩
  · exact .inl h
  · refine .inr ⟨x, rfl, h1, h2, h3, fun i hi => ?_, h5⟩
    rw [World.cell?_of_block (a := x.add i) (w := w) (w' := w') (by rw [show (x.add i).block = x.block from by unfold Addr.add; split <;> rfl]; exact hb x rfl (by omega))]
    exact h4 i hi

theorem IsRow.at {w : World} {a : Option Addr} {len cap : Nat} {zs : List Int} (h : IsRow .u8 w a len cap zs) (i : Nat) (hi : i < len) :
    ∃ b off : Nat, ∃ z : Int, a = some ⟨b, off, none⟩ ∧ len ≤ 9223372036854775807 ∧ 0 ≤ z ∧ z ≤ 255 ∧ w.cell? ⟨b, off + i, none⟩ = some (.int .u8 z) := by
  rcases h with ⟨_, rfl, _⟩ | ⟨x, rfl, hl, hm, hz, hcell, hwz⟩
  · omega
  · obtain ⟨b, off, spot⟩ := x
    have h0 := hcell 0 (by omega)
    have hspot : spot = none := by simpa [Addr.add] using World.cell?_spot h0
    subst hspot
    have hc := hcell i (by omega)
    have hg : zs.getD i 0 = zs[i] := by simp [List.getD, List.getElem?_eq_getElem (show i < zs.length by omega)]
    have hz8 := hwz zs[i] (List.getElem_mem _)
    have hzb : 0 ≤ zs[i] ∧ zs[i] ≤ 255 := by simpa [Lit.wf, IntKind.min, IntKind.max, IntKind.signed, IntKind.bits] using hz8
    rw [hg] at hc
    unfold maxLen at hm
    refine ⟨b, off, zs[i], rfl, by omega, hzb.1, hzb.2, ?_⟩
    by_cases e : i = 0
    · subst e; simpa [Addr.add] using hc
    · simpa [Addr.add, e] using hc

theorem IsRow.lt {k : IntKind} {w : World} {a : Option Addr} {len cap : Nat} {zs : List Int} (h : IsRow k w a len cap zs) : ∀ x, a = some x → 0 < cap → x.block < w.heap.size := by
  rcases h with ⟨rfl, _⟩ | ⟨x, rfl, h1, h2, h3, h4, h5⟩
  · intro x e; cases e
  · intro y e h0
    cases e
    have hc := h4 0 (by omega)
    have e0 : x.add 0 = x := by simp [Addr.add]
    rw [e0] at hc
    cases hh : w.heap[x.block]? with
    | none => simp [World.cell?, hh] at hc
    | some o => exact (Array.getElem?_eq_some_iff.1 hh).1

theorem heap_set (w : World) (k : Nat) (c : Array Value) (T : TypeId) (o : Nat) (v : Value) (hb : w.heap[k]? = some (.cells c T (0, 0))) :
    (w.setCell ⟨k, o, none⟩ v).heap[k]? = some (.cells (c.setIfInBounds o v) T (0, 0)) := by
  simp [World.setCell, Array.getElem?_modify, hb]

theorem grown_set (w : World) (k o : Nat) (v : Value) : w.grownBy (w.setCell ⟨k, o, none⟩ v) (some k) :=
  ⟨rfl, rfl, rfl, by simp [World.setCell], fun j _ hj => Below.heap_setCell _ _ _ _ (fun e => hj (by rw [e]))⟩
theorem grown_drewN {w w' : World} {r : Option Nat} (h : w.grownBy w' r) (n : Nat) : w.grownBy (w'.drewN n) r := ⟨h.os, h.tape, h.output, h.size, h.block⟩
theorem grown_refl (w : World) (r : Option Nat) : w.grownBy w r := ⟨rfl, rfl, rfl, Nat.le_refl _, fun _ _ _ => rfl⟩
theorem grown_trans {a b c : World} {r : Option Nat} (h : a.grownBy b r) (k : b.grownBy c r) : a.grownBy c r :=
  ⟨k.os.trans h.os, k.tape.trans h.tape, k.output.trans h.output, Nat.le_trans h.size k.size, fun i hi hr => (k.block i (Nat.lt_of_lt_of_le hi h.size) hr).trans (h.block i hi hr)⟩

/-- what a call of the cursor's functions does: it may make blocks, and of those that were there it writes into the cursor's alone -/
structure Step (w w' : World) (k : Nat) (a : Option Addr) (len cap : Nat) (zs : List Int) : Prop where
  grown : w.grownBy w' (some k)
  src : Src w' k a len cap zs

theorem Src.lt {w : World} {k : Nat} {a : Option Addr} {len cap : Nat} {zs : List Int} (h : Src w k a len cap zs) : k < w.heap.size := by
  obtain ⟨⟨i, h, _, _, hb⟩, _, _⟩ := h
  exact (Array.getElem?_eq_some_iff.1 hb).1

theorem Src.step {w w' : World} {k : Nat} {a : Option Addr} {len cap : Nat} {zs : List Int} (hs : Src w k a len cap zs) (hg : w.grownBy w' (some k))
    (i : Nat) (h : Int) (hi : i ≤ len) (hw : (Lit.int .i64 h).wf = true) (hb : w'.heap[k]? = some (.cells #[.slice a len cap, .int .i64 i, .int .i64 h] 91 (0, 0))) : Step w w' k a len cap zs :=
  ⟨hg, ⟨i, h, hi, hw, hb⟩, hs.row.of_block fun x hx h0 => hg.block _ (Nat.lt_trans (hs.below x hx h0) hs.lt) (fun e => by have := hs.below x hx h0; cases e; omega), hs.below⟩

theorem Step.trans {w w' w'' : World} {k : Nat} {a : Option Addr} {len cap : Nat} {zs : List Int} (h : Step w w' k a len cap zs) (h' : Step w' w'' k a len cap zs) : Step w w'' k a len cap zs :=
  ⟨grown_trans h.grown h'.grown, h'.src⟩

theorem Step.drewN {w w' : World} {k : Nat} {a : Option Addr} {len cap : Nat} {zs : List Int} (h : Step w w' k a len cap zs) (n : Nat) : Step w (w'.drewN n) k a len cap zs :=
  ⟨grown_drewN h.grown n, ⟨h.src.cur, h.src.row.of_block fun _ _ _ => rfl, h.src.below⟩⟩
theorem Step.move {w w' : World} {k : Nat} {a : Option Addr} {len cap : Nat} {zs : List Int} (h : Step w w' k a len cap zs) (i j : Nat) (g : Int) (hb : w'.heap[k]? = some (.cells #[.slice a len cap, .int .i64 i, .int .i64 g] 91 (0, 0)))
    (hj : j ≤ len) (hw : (Lit.int .i64 g).wf = true) : Step w (w'.setCell ⟨k, 1, none⟩ (.int .i64 j)) k a len cap zs := by
  exact h.trans (h.src.step (grown_set w' k 1 _) j g hj hw (heap_set w' k _ _ 1 _ hb))

def ByteP (w : World) (k : Nat) (a : Option Addr) (len cap : Nat) (zs : List Int) (e : Ending) (w' : World) : Prop :=
  ∃ x : Int, 0 ≤ x ∧ x ≤ 255 ∧ e = .returned (.int .i64 x) ∧ Step w w' k a len cap zs

theorem byte {w : World} {k : Nat} {a : Option Addr} {len cap : Nat} {zs : List Int} (hs : Src w k a len cap zs) :
    Calls Tryd.prog 56 #[.pointer (some ⟨k, 0, none⟩)] w (ByteP w k a len cap zs) := by
  have hs0 := hs
  obtain ⟨⟨i, h, hi1, hw, hb⟩, hr, hx⟩ := hs
  have c0 : w.cell? ⟨k, 0, none⟩ = some (.slice a len cap) := by simp [World.cell?, hb]
  have c1 : w.cell? ⟨k, 1, none⟩ = some (.int .i64 i) := by simp [World.cell?, hb]
  have c2 : w.cell? ⟨k, 2, none⟩ = some (.int .i64 h) := by simp [World.cell?, hb]
  have f1 : w.frozen? ⟨k, 1, none⟩ = false := by simp [World.frozen?, hb]
  have f2 : w.frozen? ⟨k, 2, none⟩ = false := by simp [World.frozen?, hb]
  have HB := Lib.hid hb; clear hb
  have HS := Lib.hid hs0; clear hs0
  have HX := Lib.hid hx; clear hx
  have HR := Lib.hid hr; clear hr
  go_enter Tryd.func56, Tryd.ntmps56
  go_wp2
  have hw2 : (Lit.int .i64 (wrap64 (wrap64 (h * 6364136223846793005) + 1442695040888963407))).wf = true := wrap64_wf _
  generalize wrap64 (wrap64 (h * 6364136223846793005) + 1442695040888963407) = h2 at *
  generalize wrap64 (h * 6364136223846793005) = h1 at *
  go_quiet (fail)
  go_wp2_with fail
  have HB1 := Lib.hid (heap_set w k _ _ 2 (.int .i64 h2) HB.out)
  have HG1 := Lib.hid (grown_drewN (grown_set w k 2 (.int .i64 h2)) nq)
  obtain ⟨hx0, hx1⟩ := and255 (bits BinOp.xor IntKind.i64 (h2 / 8589934592) (h2 / 35184372088832))
  generalize bits BinOp.and IntKind.i64 (bits BinOp.xor IntKind.i64 (h2 / 8589934592) (h2 / 35184372088832)) 255 = x0 at *
  have HB1' : Hid (((w.setCell ⟨k, 2, none⟩ (.int .i64 h2)).drewN nq).heap[k]? = some (.cells #[.slice a len cap, .int .i64 i, .int .i64 h2] 91 (0, 0))) := HB1
  generalize (w.setCell ⟨k, 2, none⟩ (.int .i64 h2)).drewN nq = W1 at *
  clear HB1 c0 c1 c2 f1 f2
  have hb1 := HB1'.out
  have c0 : W1.cell? ⟨k, 0, none⟩ = some (.slice a len cap) := by simp [World.cell?, hb1]
  have c1 : W1.cell? ⟨k, 1, none⟩ = some (.int .i64 i) := by simp [World.cell?, hb1]
  have f1 : W1.frozen? ⟨k, 1, none⟩ = false := by simp [World.frozen?, hb1]
  clear hb1
  by_cases hlt : (i : Int) < len
  · have hst := Src.step HS.out HG1.out i h2 hi1 hw2 HB1'.out
    obtain ⟨b, off, z, rfl, hm, hz0, hz1, hcb⟩ := hst.src.row.at i (by omega)
    have HST := Lib.hid hst; clear hst
    have hi0 : (0 : Int) ≤ i := by omega
    go_quiet (fail)
    go_wp2_with fail
    go_quiet (fail)
    go_wp2
    go_ret
    refine ⟨_, (and255 _).1, (and255 _).2, rfl, ?_⟩
    refine Step.move (HST.out.drewN _) i (i + 1) h2 ?_ (by omega) hw2
    exact HB1'.out
  · go_quiet (fail)
    go_wp2
    go_ret
    exact ⟨x0, hx0, hx1, rfl, (Src.step HS.out HG1.out i h2 hi1 hw2 HB1'.out).drewN _⟩

def BelowP (n : Int) (w : World) (k : Nat) (a : Option Addr) (len cap : Nat) (zs : List Int) (e : Ending) (w' : World) : Prop :=
  ∃ x : Int, 0 ≤ x ∧ (0 < n → x < n) ∧ (n ≤ 0 → x = 0) ∧ e = .returned (.int .i64 x) ∧ Step w w' k a len cap zs

theorem Src.refl {w : World} {k : Nat} {a : Option Addr} {len cap : Nat} {zs : List Int} (h : Src w k a len cap zs) : Step w w k a len cap zs := ⟨grown_refl _ _, h⟩

theorem below {w : World} {k : Nat} {a : Option Addr} {len cap : Nat} {zs : List Int} (hs : Src w k a len cap zs) (n : Int) :
    Calls Tryd.prog 29 #[.pointer (some ⟨k, 0, none⟩), .int .i64 n] w (BelowP n w k a len cap zs) := by
  by_cases h0 : n ≤ 0
  · have HS := Lib.hid hs; clear hs
    go_enter Tryd.func29, Tryd.ntmps29
    go_wp2
    go_ret
    exact ⟨0, by omega, by omega, by omega, rfl, HS.out.refl⟩
  · by_cases h1 : n ≤ 256
    · have HS := Lib.hid hs; clear hs
      have hn0 : (n == 0) = false := by simp; omega
      have hp : 0 < n := by omega
      go_enter Tryd.func29, Tryd.ntmps29
      go_wp2_with fail
      refine (byte HS.out).mono ?_
      rintro e w1 ⟨x, hx0, hx1, rfl, hst⟩
      have HT := Lib.hid hst; clear hst
      go_wp2
      go_ret
      exact ⟨x % n, by have := Int.emod_nonneg x (show n ≠ 0 by omega); omega, fun _ => Int.emod_lt_of_pos x hp, by omega, rfl, HT.out⟩
    · have HS := Lib.hid hs; clear hs
      have hn0 : (n == 0) = false := by simp; omega
      have hp : 0 < n := by omega
      go_enter Tryd.func29, Tryd.ntmps29
      go_wp2_with fail
      refine (byte HS.out).mono ?_
      rintro e w1 ⟨x, hx0, hx1, rfl, hst⟩
      have HT1 := Lib.hid hst; clear hst
      go_wp2_with fail
      refine (byte HT1.out.src).mono ?_
      rintro e w2 ⟨y, hy0, hy1, rfl, hst⟩
      have HT2 := Lib.hid (HT1.out.trans hst); clear hst
      go_wp2_with fail
      refine (byte HT2.out.src).mono ?_
      rintro e w3 ⟨z, hz0, hz1, rfl, hst⟩
      have HT3 := Lib.hid (HT2.out.trans hst); clear hst
      go_wp2_with fail
      refine (byte HT3.out.src).mono ?_
      rintro e w4 ⟨v, hv0, hv1, rfl, hst⟩
      have HT4 := Lib.hid (HT3.out.trans hst); clear hst
      go_wp2
      go_ret
      exact ⟨_, Int.emod_nonneg _ (show n ≠ 0 by omega), fun _ => Int.emod_lt_of_pos _ hp, by omega, rfl, HT4.out⟩

def OnceP (w : World) (k : Nat) (a : Option Addr) (len cap : Nat) (zs : List Int) (e : Ending) (w' : World) : Prop :=
  ∃ b : Bool, e = .returned (.bool b) ∧ Step w w' k a len cap zs

theorem once {w : World} {k : Nat} {a : Option Addr} {len cap : Nat} {zs : List Int} (hs : Src w k a len cap zs) (n : Int) :
    Calls Tryd.prog 86 #[.pointer (some ⟨k, 0, none⟩), .int .i64 n] w (OnceP w k a len cap zs) := by
  have HS := Lib.hid hs; clear hs
  go_enter Tryd.func86, Tryd.ntmps86
  go_wp2_with fail
  refine (below HS.out n).mono ?_
  rintro e w1 ⟨x, hx0, _, _, rfl, hst⟩
  have HT := Lib.hid hst; clear hst
  go_wp2
  go_ret
  exact ⟨_, rfl, HT.out⟩

theorem grown_alloc {w w' : World} {r : Option Nat} (h : w.grownBy w' r) (o : Obj) : w.grownBy (w'.alloc o) r :=
  grown_trans h ⟨rfl, rfl, rfl, by simp, fun _ hk _ => Below.heap_alloc _ _ _ hk⟩
theorem Src.of_block {w w' : World} {k : Nat} {a : Option Addr} {len cap : Nat} {zs : List Int} (h : Src w k a len cap zs) (hb : ∀ j, j ≤ k → w'.heap[j]? = w.heap[j]?) : Src w' k a len cap zs := by
  obtain ⟨⟨i, g, hi, hw, hc⟩, hr, hx⟩ := h
  exact ⟨⟨i, g, hi, hw, by rw [hb k (Nat.le_refl _)]; exact hc⟩, hr.of_block fun x e h0 => hb _ (Nat.le_of_lt (hx x e h0)), hx⟩
theorem Step.alloc {w w' : World} {k : Nat} {a : Option Addr} {len cap : Nat} {zs : List Int} (h : Step w w' k a len cap zs) (o : Obj) : Step w (w'.alloc o) k a len cap zs :=
  ⟨grown_alloc h.grown o, h.src.of_block fun _ hj => Below.heap_alloc _ _ _ (Nat.lt_of_le_of_lt hj h.src.lt)⟩

theorem heap_new (w : World) (o : Obj) : (w.alloc o).heap[w.heap.size]? = some o := by
  show (w.heap.push o)[w.heap.size]? = some o
  simp

/-- behind the cursor's making: its block is the first new one -/
def NewP (w : World) (a : Option Addr) (len cap : Nat) (zs : List Int) (e : Ending) (w' : World) : Prop :=
  e = .returned (.pointer (some ⟨w.heap.size, 0, none⟩)) ∧ Below w.heap.size w w' ∧ Src w' w.heap.size a len cap zs

theorem new_src {w : World} {a : Option Addr} {len cap : Nat} {zs : List Int} (hr : IsRow .u8 w a len cap zs)  (h : Int) (hw : (Lit.int .i64 h).wf = true) :
    Src (w.alloc (.cells #[.slice a len cap, .int .i64 0, .int .i64 h] 91)) w.heap.size a len cap zs :=
  ⟨⟨0, h, Nat.zero_le _, hw, heap_new _ _⟩, hr.of_block fun x e h0 => Below.heap_alloc _ _ _ (hr.lt x e h0), hr.lt⟩

theorem and30 (n : Int) : 0 ≤ bits .and .i64 n 1073741823 ∧ bits .and .i64 n 1073741823 ≤ 1073741823 := by rw [i64_and30]; omega

theorem new {w : World} {a : Option Addr} {len cap : Nat} {zs : List Int} (hr : IsRow .u8 w a len cap zs)  (hlen : len ≤ 1048576) :
    Calls Tryd.prog 28 #[.slice a len cap] w (NewP w a len cap zs) := by
  have HR := Lib.hid hr; clear hr
  go_enter Tryd.func28, Tryd.ntmps28
  go_wp2
  go_loop [3, 4] (fun h i => ∃ (k : Nat) (g : Int), k ≤ len ∧ i = .int .i64 k ∧ 0 ≤ g ∧ g ≤ 1073741823 ∧ h = .int .i64 g) (fun _ i => len - (intOf i).toNat)
  case atStart => exact ⟨0, _, Nat.zero_le _, rfl, by omega, by omega, rfl⟩
  case round =>
    obtain ⟨k, g, hk, rfl, hg0, hg1, rfl⟩ := hrel
    by_cases hlt : (k : Int) < len
    · by_cases h4 : (k : Int) < 4000
      · obtain ⟨b, off, z, rfl, hm, hz0, hz1, hcb⟩ := HR.out.at k (by omega)
        have hk0 : (0 : Int) ≤ k := by omega
        go_wp2
        go_round
        case rel => exact ⟨k + 1, _, by omega, by go_num, (and30 _).1, (and30 _).2, rfl⟩
        case measure => simp [intOf]; omega
      · go_wp2
        exact bodyPost_ret (v := .pointer (some ⟨w.heap.size, 0, none⟩)) (by simp [results, Tryd.results28, go_sem]) rfl ⟨rfl, (Below.refl _ _).alloc (Nat.le_refl _) _, new_src HR.out g (by go_wf2)⟩
    · go_wp2
      exact bodyPost_ret (v := .pointer (some ⟨w.heap.size, 0, none⟩)) (by simp [results, Tryd.results28, go_sem]) rfl ⟨rfl, (Below.refl _ _).alloc (Nat.le_refl _) _, new_src HR.out g (by go_wf2)⟩
end Dr
end Go.Proofs.YtkmkpjpopobdbaaDoor

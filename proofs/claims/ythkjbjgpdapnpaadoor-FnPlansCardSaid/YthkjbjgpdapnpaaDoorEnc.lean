/- The cells of the program's structs and slices. -/
import Derived.Test.YthkjbjgpdapnpaaDoorProg
import Derived.Test.YthkjbjgpdapnpaaDoorMod
import Derived.Test.YthkjbjgpdapnpaaDoorTreeOps
namespace Go.Proofs.YthkjbjgpdapnpaaDoor
open Go.RowKit
namespace Tr
def eIntS (x : List Int) : D := rowD 3 1 eI x
def ePlan (x : GPlan) : D := (eI x.Keep).app ((eI x.Move).app (eIntS x.Cells))
theorem sinv_Plan {w : World} {x : GPlan} {us : List Value} {b : List Nat} (h : Own w (ePlan x) us b) : ∃ (A2 : Option Addr) (n2 p2 : Nat), us = [.int .i64 x.Keep, .int .i64 x.Move, .slice A2 n2 p2] := by
  obtain ⟨_, rfl, h⟩ := h
  obtain ⟨_, rfl, h⟩ := h
  obtain ⟨c2, _, _, _, rfl, _, h, s2⟩ := h
  obtain ⟨rfl, _⟩ := h
  obtain ⟨A2, n2, p2, rfl⟩ := slice_of s2
  exact ⟨A2, n2, p2, rfl⟩
theorem inv_Plan {w : World} {x : GPlan} {us : List Value} {b : List Nat} (h : Own w (ePlan x) us b) : ∃ c0 : Value, us = [.int .i64 x.Keep, .int .i64 x.Move, c0] := by
  obtain ⟨_, rfl, h⟩ := h
  obtain ⟨_, rfl, h⟩ := h
  obtain ⟨c0, _, _, _, rfl, _, h, _⟩ := h
  obtain ⟨rfl, _⟩ := h
  exact ⟨c0, rfl⟩
def eSpan (x : GSpan) : D := (eI x.Page).app ((eI x.Class).app (eI x.Bits))
theorem inv_Span {w : World} {x : GSpan} {us : List Value} {b : List Nat} (h : Own w (eSpan x) us b) : us = [.int .i64 x.Page, .int .i64 x.Class, .int .i64 x.Bits] := by
  obtain ⟨_, rfl, h⟩ := h
  obtain ⟨_, rfl, h⟩ := h
  obtain ⟨_, rfl, h⟩ := h
  obtain ⟨rfl, _⟩ := h
  exact rfl
def ePair (x : GPair) : D := (eI x.A).app (eI x.B)
theorem inv_Pair {w : World} {x : GPair} {us : List Value} {b : List Nat} (h : Own w (ePair x) us b) : us = [.int .i64 x.A, .int .i64 x.B] := by
  obtain ⟨_, rfl, h⟩ := h
  obtain ⟨_, rfl, h⟩ := h
  obtain ⟨rfl, _⟩ := h
  exact rfl
theorem parts_Plan {w : World} {x : GPlan} {c0 : Value} {bs : List Nat} (h : Own w (ePlan x) [.int .i64 x.Keep, .int .i64 x.Move, c0] bs) : ∃ b2 : List Nat, bs = b2 ∧ Own w (eIntS x.Cells) [c0] b2 := by
  obtain ⟨b0, r0, e0, h0, t0⟩ := own_split h
  obtain ⟨b1, r1, e1, h1, t1⟩ := own_split t0
  have h2 := t1
  have z0 : b0 = [] := by exact own_lit h0
  have z1 : b1 = [] := by exact own_lit h1
  refine ⟨r1, ?_, h2⟩
  simp [e0, e1, z0, z1]
theorem sz_Plan (x : GPlan) : (ePlan x).sz = (eI x.Keep).sz + ((eI x.Move).sz + ((eIntS x.Cells).sz)) := by
  show (D.sz _) = _
  unfold ePlan
  rw [sz_app, sz_app]
theorem cntTop_Plan (x : GPlan) : (ePlan x).cntTop = (eI x.Keep).cntTop + ((eI x.Move).cntTop + ((eIntS x.Cells).cntTop)) := by
  show (D.cntTop _) = _
  unfold ePlan
  rw [cntTop_app, cntTop_app]
theorem cnt_Plan (x : GPlan) : (ePlan x).cnt = (eI x.Keep).cnt + ((eI x.Move).cnt + ((eIntS x.Cells).cnt)) := by
  show (D.cnt _) = _
  unfold ePlan
  rw [cnt_app, cnt_app]
theorem sz_Span (x : GSpan) : (eSpan x).sz = (eI x.Page).sz + ((eI x.Class).sz + ((eI x.Bits).sz)) := by
  show (D.sz _) = _
  unfold eSpan
  rw [sz_app, sz_app]
theorem cntTop_Span (x : GSpan) : (eSpan x).cntTop = (eI x.Page).cntTop + ((eI x.Class).cntTop + ((eI x.Bits).cntTop)) := by
  show (D.cntTop _) = _
  unfold eSpan
  rw [cntTop_app, cntTop_app]
theorem cnt_Span (x : GSpan) : (eSpan x).cnt = (eI x.Page).cnt + ((eI x.Class).cnt + ((eI x.Bits).cnt)) := by
  show (D.cnt _) = _
  unfold eSpan
  rw [cnt_app, cnt_app]
theorem sz_Pair (x : GPair) : (ePair x).sz = (eI x.A).sz + ((eI x.B).sz) := by
  show (D.sz _) = _
  unfold ePair
  rw [sz_app]
theorem cntTop_Pair (x : GPair) : (ePair x).cntTop = (eI x.A).cntTop + ((eI x.B).cntTop) := by
  show (D.cntTop _) = _
  unfold ePair
  rw [cntTop_app]
theorem cnt_Pair (x : GPair) : (ePair x).cnt = (eI x.A).cnt + ((eI x.B).cnt) := by
  show (D.cnt _) = _
  unfold ePair
  rw [cnt_app]
theorem rinv_IntS {w : World} {x : List Int} {us : List Value} (h : Raw w (eIntS x) us) : ∃ c0 : Value, us = [c0] := by
  obtain ⟨c0, _, rfl, h, _⟩ := h
  obtain rfl := h
  exact ⟨c0, rfl⟩
theorem rinv_Plan {w : World} {x : GPlan} {us : List Value} (h : Raw w (ePlan x) us) : ∃ c2 : Value, us = [.int .i64 x.Keep, .int .i64 x.Move, c2] := by
  obtain ⟨_, rfl, h⟩ := h
  obtain ⟨_, rfl, h⟩ := h
  obtain ⟨c2, _, rfl, h, _⟩ := h
  obtain rfl := h
  exact ⟨c2, rfl⟩
theorem rinv_Span {w : World} {x : GSpan} {us : List Value} (h : Raw w (eSpan x) us) : us = [.int .i64 x.Page, .int .i64 x.Class, .int .i64 x.Bits] := by
  obtain ⟨_, rfl, h⟩ := h
  obtain ⟨_, rfl, h⟩ := h
  obtain ⟨_, rfl, h⟩ := h
  obtain rfl := h
  exact rfl
theorem rinv_Pair {w : World} {x : GPair} {us : List Value} (h : Raw w (ePair x) us) : us = [.int .i64 x.A, .int .i64 x.B] := by
  obtain ⟨_, rfl, h⟩ := h
  obtain ⟨_, rfl, h⟩ := h
  obtain rfl := h
  exact rfl
theorem rinv_Int {w : World} {x : Int} {us : List Value} (h : Raw w (eI x) us) : us = [.int .i64 x] := by
  obtain ⟨_, rfl, h⟩ := h
  obtain rfl := h
  exact rfl
theorem rinv_Bool {w : World} {x : Bool} {us : List Value} (h : Raw w (eB x) us) : us = [.bool x] := by
  obtain ⟨_, rfl, h⟩ := h
  obtain rfl := h
  exact rfl
theorem rinv_String {w : World} {x : ByteArray} {us : List Value} (h : Raw w (eS x) us) : us = [.string x] := by
  obtain ⟨_, rfl, h⟩ := h
  obtain rfl := h
  exact rfl
theorem cntb_IntS (x : List Int) : (eIntS x).cnt ≤ 16 * (eIntS x).sz := cnt_row (fun x => by show 1 ≤ _; omega) x
theorem cntb_Plan (x : GPlan) : (ePlan x).cnt ≤ 2 + 16 * (ePlan x).sz := by
  rw [cnt_Plan, sz_Plan]
  have h0 : (eI x.Keep).cnt ≤ 1 + 16 * (eI x.Keep).sz := by show 1 ≤ _; omega
  have h1 : (eI x.Move).cnt ≤ 1 + 16 * (eI x.Move).sz := by show 1 ≤ _; omega
  have h2 : (eIntS x.Cells).cnt ≤ 0 + 16 * (eIntS x.Cells).sz := by have := cntb_IntS x.Cells; omega
  omega
theorem cntb_Span (x : GSpan) : (eSpan x).cnt ≤ 3 + 16 * (eSpan x).sz := by
  rw [cnt_Span, sz_Span]
  have h0 : (eI x.Page).cnt ≤ 1 + 16 * (eI x.Page).sz := by show 1 ≤ _; omega
  have h1 : (eI x.Class).cnt ≤ 1 + 16 * (eI x.Class).sz := by show 1 ≤ _; omega
  have h2 : (eI x.Bits).cnt ≤ 1 + 16 * (eI x.Bits).sz := by show 1 ≤ _; omega
  omega
theorem cntb_Pair (x : GPair) : (ePair x).cnt ≤ 2 + 16 * (ePair x).sz := by
  rw [cnt_Pair, sz_Pair]
  have h0 : (eI x.A).cnt ≤ 1 + 16 * (eI x.A).sz := by show 1 ≤ _; omega
  have h1 : (eI x.B).cnt ≤ 1 + 16 * (eI x.B).sz := by show 1 ≤ _; omega
  omega
end Tr
end Go.Proofs.YthkjbjgpdapnpaaDoor

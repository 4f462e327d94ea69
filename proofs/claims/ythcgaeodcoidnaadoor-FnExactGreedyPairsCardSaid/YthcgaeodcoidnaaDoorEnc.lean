/- The cells of the program's structs and slices. -/
import Derived.Test.YthcgaeodcoidnaaDoorProg
import Derived.Test.YthcgaeodcoidnaaDoorMod
import Derived.Test.YthcgaeodcoidnaaDoorTreeOps
namespace Go.Proofs.YthcgaeodcoidnaaDoor
open Go.RowKit
namespace Tr
def ePair (x : GPair) : D := (eI x.A).app (eI x.B)
theorem inv_Pair {w : World} {x : GPair} {us : List Value} {b : List Nat} (h : Own w (ePair x) us b) : us = [.int .i64 x.A, .int .i64 x.B] := by
  obtain ⟨_, rfl, h⟩ := h
  obtain ⟨_, rfl, h⟩ := h
  obtain ⟨rfl, _⟩ := h
  exact rfl
def ePairS (x : List GPair) : D := rowD 60 2 ePair x
def eSpan (x : GSpan) : D := (eI x.Page).app ((eI x.Class).app (eI x.Bits))
theorem inv_Span {w : World} {x : GSpan} {us : List Value} {b : List Nat} (h : Own w (eSpan x) us b) : us = [.int .i64 x.Page, .int .i64 x.Class, .int .i64 x.Bits] := by
  obtain ⟨_, rfl, h⟩ := h
  obtain ⟨_, rfl, h⟩ := h
  obtain ⟨_, rfl, h⟩ := h
  obtain ⟨rfl, _⟩ := h
  exact rfl
def eSpanS (x : List GSpan) : D := rowD 38 3 eSpan x
theorem sz_Pair (x : GPair) : (ePair x).sz = (eI x.A).sz + ((eI x.B).sz) := by
  show (D.sz _) = _
  unfold ePair
  rw [sz_app]
theorem cntTop_Pair (x : GPair) : (ePair x).cntTop = (eI x.A).cntTop + ((eI x.B).cntTop) := by
  show (D.cntTop _) = _
  unfold ePair
  rw [cntTop_app]
theorem cnt_Pair (x : GPair) : (ePair x).cnt = (eI x.A).cnt + ((eI x.B).cnt) := by
  show (D.cnt _) = _
  unfold ePair
  rw [cnt_app]
theorem sz_Span (x : GSpan) : (eSpan x).sz = (eI x.Page).sz + ((eI x.Class).sz + ((eI x.Bits).sz)) := by
  show (D.sz _) = _
  unfold eSpan
  rw [sz_app, sz_app]
theorem cntTop_Span (x : GSpan) : (eSpan x).cntTop = (eI x.Page).cntTop + ((eI x.Class).cntTop + ((eI x.Bits).cntTop)) := by
  show (D.cntTop _) = _
  unfold eSpan
  rw [cntTop_app, cntTop_app]
theorem cnt_Span (x : GSpan) : (eSpan x).cnt = (eI x.Page).cnt + ((eI x.Class).cnt + ((eI x.Bits).cnt)) := by
  show (D.cnt _) = _
  unfold eSpan
  rw [cnt_app, cnt_app]
theorem rinv_Pair {w : World} {x : GPair} {us : List Value} (h : Raw w (ePair x) us) : us = [.int .i64 x.A, .int .i64 x.B] := by
  obtain ⟨_, rfl, h⟩ := h
  obtain ⟨_, rfl, h⟩ := h
  obtain rfl := h
  exact rfl
theorem rinv_PairS {w : World} {x : List GPair} {us : List Value} (h : Raw w (ePairS x) us) : ∃ c0 : Value, us = [c0] := by
  obtain ⟨c0, _, rfl, h, _⟩ := h
  obtain rfl := h
  exact ⟨c0, rfl⟩
theorem rinv_Span {w : World} {x : GSpan} {us : List Value} (h : Raw w (eSpan x) us) : us = [.int .i64 x.Page, .int .i64 x.Class, .int .i64 x.Bits] := by
  obtain ⟨_, rfl, h⟩ := h
  obtain ⟨_, rfl, h⟩ := h
  obtain ⟨_, rfl, h⟩ := h
  obtain rfl := h
  exact rfl
theorem rinv_SpanS {w : World} {x : List GSpan} {us : List Value} (h : Raw w (eSpanS x) us) : ∃ c0 : Value, us = [c0] := by
  obtain ⟨c0, _, rfl, h, _⟩ := h
  obtain rfl := h
  exact ⟨c0, rfl⟩
theorem rinv_Int {w : World} {x : Int} {us : List Value} (h : Raw w (eI x) us) : us = [.int .i64 x] := by
  obtain ⟨_, rfl, h⟩ := h
  obtain rfl := h
  exact rfl
theorem rinv_Bool {w : World} {x : Bool} {us : List Value} (h : Raw w (eB x) us) : us = [.bool x] := by
  obtain ⟨_, rfl, h⟩ := h
  obtain rfl := h
  exact rfl
theorem rinv_String {w : World} {x : ByteArray} {us : List Value} (h : Raw w (eS x) us) : us = [.string x] := by
  obtain ⟨_, rfl, h⟩ := h
  obtain rfl := h
  exact rfl
theorem cntb_Pair (x : GPair) : (ePair x).cnt ≤ 2 + 16 * (ePair x).sz := by
  rw [cnt_Pair, sz_Pair]
  have h0 : (eI x.A).cnt ≤ 1 + 16 * (eI x.A).sz := by show 1 ≤ _; omega
  have h1 : (eI x.B).cnt ≤ 1 + 16 * (eI x.B).sz := by show 1 ≤ _; omega
  omega
theorem cntb_PairS (x : List GPair) : (ePairS x).cnt ≤ 16 * (ePairS x).sz := cnt_row (fun x => by have := cntb_Pair x; omega) x
theorem cntb_Span (x : GSpan) : (eSpan x).cnt ≤ 3 + 16 * (eSpan x).sz := by
  rw [cnt_Span, sz_Span]
  have h0 : (eI x.Page).cnt ≤ 1 + 16 * (eI x.Page).sz := by show 1 ≤ _; omega
  have h1 : (eI x.Class).cnt ≤ 1 + 16 * (eI x.Class).sz := by show 1 ≤ _; omega
  have h2 : (eI x.Bits).cnt ≤ 1 + 16 * (eI x.Bits).sz := by show 1 ≤ _; omega
  omega
theorem cntb_SpanS (x : List GSpan) : (eSpanS x).cnt ≤ 16 * (eSpanS x).sz := cnt_row (fun x => by have := cntb_Span x; omega) x
end Tr
end Go.Proofs.YthcgaeodcoidnaaDoor

/- The cells of the program's structs and slices. -/
import Derived.Test.YtabnglcabpijfaaProg
import Derived.Test.YtabnglcabpijfaaMod
import Derived.Test.YtabnglcabpijfaaTreeOps
namespace Go.Proofs.Ytabnglcabpijfaa
open Go.RowKit
namespace Tr
def eWriter (x : GWriter) : D := (eI x.Addr).app ((eI x.Value).app ((eB x.Done).app (eI x.Waits)))
theorem inv_Writer {w : World} {x : GWriter} {us : List Value} {b : List Nat} (h : Own w (eWriter x) us b) : us = [.int .i64 x.Addr, .int .i64 x.Value, .bool x.Done, .int .i64 x.Waits] := by
  obtain ⟨_, rfl, h⟩ := h
  obtain ⟨_, rfl, h⟩ := h
  obtain ⟨_, rfl, h⟩ := h
  obtain ⟨_, rfl, h⟩ := h
  obtain ⟨rfl, _⟩ := h
  exact rfl
def eWriterS (x : List GWriter) : D := rowD 30 4 eWriter x
theorem sz_Writer (x : GWriter) : (eWriter x).sz = (eI x.Addr).sz + ((eI x.Value).sz + ((eB x.Done).sz + ((eI x.Waits).sz))) := by
  show (D.sz _) = _
  unfold eWriter
  rw [sz_app, sz_app, sz_app]
theorem cntTop_Writer (x : GWriter) : (eWriter x).cntTop = (eI x.Addr).cntTop + ((eI x.Value).cntTop + ((eB x.Done).cntTop + ((eI x.Waits).cntTop))) := by
  show (D.cntTop _) = _
  unfold eWriter
  rw [cntTop_app, cntTop_app, cntTop_app]
theorem cnt_Writer (x : GWriter) : (eWriter x).cnt = (eI x.Addr).cnt + ((eI x.Value).cnt + ((eB x.Done).cnt + ((eI x.Waits).cnt))) := by
  show (D.cnt _) = _
  unfold eWriter
  rw [cnt_app, cnt_app, cnt_app]
theorem rinv_Writer {w : World} {x : GWriter} {us : List Value} (h : Raw w (eWriter x) us) : us = [.int .i64 x.Addr, .int .i64 x.Value, .bool x.Done, .int .i64 x.Waits] := by
  obtain ⟨_, rfl, h⟩ := h
  obtain ⟨_, rfl, h⟩ := h
  obtain ⟨_, rfl, h⟩ := h
  obtain ⟨_, rfl, h⟩ := h
  obtain rfl := h
  exact rfl
theorem rinv_WriterS {w : World} {x : List GWriter} {us : List Value} (h : Raw w (eWriterS x) us) : ∃ c0 : Value, us = [c0] := by
  obtain ⟨c0, _, rfl, h, _⟩ := h
  obtain rfl := h
  exact ⟨c0, rfl⟩
theorem rinv_Int {w : World} {x : Int} {us : List Value} (h : Raw w (eI x) us) : us = [.int .i64 x] := by
  obtain ⟨_, rfl, h⟩ := h
  obtain rfl := h
  exact rfl
theorem rinv_Bool {w : World} {x : Bool} {us : List Value} (h : Raw w (eB x) us) : us = [.bool x] := by
  obtain ⟨_, rfl, h⟩ := h
  obtain rfl := h
  exact rfl
theorem rinv_String {w : World} {x : ByteArray} {us : List Value} (h : Raw w (eS x) us) : us = [.string x] := by
  obtain ⟨_, rfl, h⟩ := h
  obtain rfl := h
  exact rfl
theorem cntb_Writer (x : GWriter) : (eWriter x).cnt ≤ 4 + 16 * (eWriter x).sz := by
  rw [cnt_Writer, sz_Writer]
  have h0 : (eI x.Addr).cnt ≤ 1 + 16 * (eI x.Addr).sz := by show 1 ≤ _; omega
  have h1 : (eI x.Value).cnt ≤ 1 + 16 * (eI x.Value).sz := by show 1 ≤ _; omega
  have h2 : (eB x.Done).cnt ≤ 1 + 16 * (eB x.Done).sz := by show 1 ≤ _; omega
  have h3 : (eI x.Waits).cnt ≤ 1 + 16 * (eI x.Waits).sz := by show 1 ≤ _; omega
  omega
theorem cntb_WriterS (x : List GWriter) : (eWriterS x).cnt ≤ 16 * (eWriterS x).sz := cnt_row (fun x => by have := cntb_Writer x; omega) x
end Tr
end Go.Proofs.Ytabnglcabpijfaa

/- The cells of the program's structs and slices. -/
import Derived.Test.YtbfdopnbclkfcaaProg
import Derived.Test.YtbfdopnbclkfcaaMod
import Derived.Test.YtbfdopnbclkfcaaTreeOps
namespace Go.Proofs.Ytbfdopnbclkfcaa
open Go.RowKit
namespace Tr
def eEntry (x : GEntry) : D := (eI x.Mode).app (eI x.Frame)
theorem inv_Entry {w : World} {x : GEntry} {us : List Value} {b : List Nat} (h : Own w (eEntry x) us b) : us = [.int .i64 x.Mode, .int .i64 x.Frame] := by
  obtain ⟨_, rfl, h⟩ := h
  obtain ⟨_, rfl, h⟩ := h
  obtain ⟨rfl, _⟩ := h
  exact rfl
def eEntryS (x : List GEntry) : D := rowD 33 2 eEntry x
def eIntS (x : List Int) : D := rowD 3 1 eI x
def eTable (x : GTable) : D := eEntryS x.Entries
theorem sinv_Table {w : World} {x : GTable} {us : List Value} {b : List Nat} (h : Own w (eTable x) us b) : ∃ (A0 : Option Addr) (n0 p0 : Nat), us = [.slice A0 n0 p0] := by
  obtain ⟨c0, _, _, _, rfl, _, h, s0⟩ := h
  obtain ⟨rfl, _⟩ := h
  obtain ⟨A0, n0, p0, rfl⟩ := slice_of s0
  exact ⟨A0, n0, p0, rfl⟩
theorem inv_Table {w : World} {x : GTable} {us : List Value} {b : List Nat} (h : Own w (eTable x) us b) : ∃ c0 : Value, us = [c0] := by
  obtain ⟨c0, _, _, _, rfl, _, h, _⟩ := h
  obtain ⟨rfl, _⟩ := h
  exact ⟨c0, rfl⟩
theorem sz_Entry (x : GEntry) : (eEntry x).sz = (eI x.Mode).sz + ((eI x.Frame).sz) := by
  show (D.sz _) = _
  unfold eEntry
  rw [sz_app]
theorem cntTop_Entry (x : GEntry) : (eEntry x).cntTop = (eI x.Mode).cntTop + ((eI x.Frame).cntTop) := by
  show (D.cntTop _) = _
  unfold eEntry
  rw [cntTop_app]
theorem cnt_Entry (x : GEntry) : (eEntry x).cnt = (eI x.Mode).cnt + ((eI x.Frame).cnt) := by
  show (D.cnt _) = _
  unfold eEntry
  rw [cnt_app]
theorem parts_Table {w : World} {x : GTable} {c0 : Value} {bs : List Nat} (h : Own w (eTable x) [c0] bs) : ∃ b0 : List Nat, bs = b0 ∧ Own w (eEntryS x.Entries) [c0] b0 := by
  have h0 := h
  refine ⟨bs, ?_, h0⟩
  rfl
theorem sz_Table (x : GTable) : (eTable x).sz = (eEntryS x.Entries).sz := by
  show (D.sz _) = _
  unfold eTable
  rfl
theorem cntTop_Table (x : GTable) : (eTable x).cntTop = (eEntryS x.Entries).cntTop := by
  show (D.cntTop _) = _
  unfold eTable
  rfl
theorem cnt_Table (x : GTable) : (eTable x).cnt = (eEntryS x.Entries).cnt := by
  show (D.cnt _) = _
  unfold eTable
  rfl
theorem rinv_Entry {w : World} {x : GEntry} {us : List Value} (h : Raw w (eEntry x) us) : us = [.int .i64 x.Mode, .int .i64 x.Frame] := by
  obtain ⟨_, rfl, h⟩ := h
  obtain ⟨_, rfl, h⟩ := h
  obtain rfl := h
  exact rfl
theorem rinv_EntryS {w : World} {x : List GEntry} {us : List Value} (h : Raw w (eEntryS x) us) : ∃ c0 : Value, us = [c0] := by
  obtain ⟨c0, _, rfl, h, _⟩ := h
  obtain rfl := h
  exact ⟨c0, rfl⟩
theorem rinv_IntS {w : World} {x : List Int} {us : List Value} (h : Raw w (eIntS x) us) : ∃ c0 : Value, us = [c0] := by
  obtain ⟨c0, _, rfl, h, _⟩ := h
  obtain rfl := h
  exact ⟨c0, rfl⟩
theorem rinv_Table {w : World} {x : GTable} {us : List Value} (h : Raw w (eTable x) us) : ∃ c0 : Value, us = [c0] := by
  obtain ⟨c0, _, rfl, h, _⟩ := h
  obtain rfl := h
  exact ⟨c0, rfl⟩
theorem rinv_Int {w : World} {x : Int} {us : List Value} (h : Raw w (eI x) us) : us = [.int .i64 x] := by
  obtain ⟨_, rfl, h⟩ := h
  obtain rfl := h
  exact rfl
theorem rinv_Bool {w : World} {x : Bool} {us : List Value} (h : Raw w (eB x) us) : us = [.bool x] := by
  obtain ⟨_, rfl, h⟩ := h
  obtain rfl := h
  exact rfl
theorem rinv_String {w : World} {x : ByteArray} {us : List Value} (h : Raw w (eS x) us) : us = [.string x] := by
  obtain ⟨_, rfl, h⟩ := h
  obtain rfl := h
  exact rfl
theorem cntb_Entry (x : GEntry) : (eEntry x).cnt ≤ 2 + 16 * (eEntry x).sz := by
  rw [cnt_Entry, sz_Entry]
  have h0 : (eI x.Mode).cnt ≤ 1 + 16 * (eI x.Mode).sz := by show 1 ≤ _; omega
  have h1 : (eI x.Frame).cnt ≤ 1 + 16 * (eI x.Frame).sz := by show 1 ≤ _; omega
  omega
theorem cntb_EntryS (x : List GEntry) : (eEntryS x).cnt ≤ 16 * (eEntryS x).sz := cnt_row (fun x => by have := cntb_Entry x; omega) x
theorem cntb_IntS (x : List Int) : (eIntS x).cnt ≤ 16 * (eIntS x).sz := cnt_row (fun x => by show 1 ≤ _; omega) x
theorem cntb_Table (x : GTable) : (eTable x).cnt ≤ 0 + 16 * (eTable x).sz := by
  rw [cnt_Table, sz_Table]
  have h0 : (eEntryS x.Entries).cnt ≤ 0 + 16 * (eEntryS x.Entries).sz := by have := cntb_EntryS x.Entries; omega
  omega
end Tr
end Go.Proofs.Ytbfdopnbclkfcaa

/- The cells of the program's structs and slices. -/
import Derived.Test.YtkcoejodhdnoiaaProg
import Derived.Test.YtkcoejodhdnoiaaMod
import Derived.Test.YtkcoejodhdnoiaaTreeOps
namespace Go.Proofs.Ytkcoejodhdnoiaa
open Go.RowKit
namespace Tr
def eIntS (x : List Int) : D := rowD 3 1 eI x
def eIntSS (x : List (List Int)) : D := rowD 33 1 eIntS x
def eBoolS (x : List Bool) : D := rowD 4 1 eB x
def eFrames (x : GFrames) : D := (eIntSS x.Cells).app (eBoolS x.Used)
theorem sinv_Frames {w : World} {x : GFrames} {us : List Value} {b : List Nat} (h : Own w (eFrames x) us b) : ∃ (A0 : Option Addr) (n0 p0 : Nat) (A1 : Option Addr) (n1 p1 : Nat), us = [.slice A0 n0 p0, .slice A1 n1 p1] := by
  obtain ⟨c0, _, _, _, rfl, _, h, s0⟩ := h
  obtain ⟨c1, _, _, _, rfl, _, h, s1⟩ := h
  obtain ⟨rfl, _⟩ := h
  obtain ⟨A0, n0, p0, rfl⟩ := slice_of s0
  obtain ⟨A1, n1, p1, rfl⟩ := slice_of s1
  exact ⟨A0, n0, p0, A1, n1, p1, rfl⟩
theorem inv_Frames {w : World} {x : GFrames} {us : List Value} {b : List Nat} (h : Own w (eFrames x) us b) : ∃ c0 c1 : Value, us = [c0, c1] := by
  obtain ⟨c0, _, _, _, rfl, _, h, _⟩ := h
  obtain ⟨c1, _, _, _, rfl, _, h, _⟩ := h
  obtain ⟨rfl, _⟩ := h
  exact ⟨c0, c1, rfl⟩
def eEntry (x : GEntry) : D := (eI x.Mode).app (eI x.Frame)
theorem inv_Entry {w : World} {x : GEntry} {us : List Value} {b : List Nat} (h : Own w (eEntry x) us b) : us = [.int .i64 x.Mode, .int .i64 x.Frame] := by
  obtain ⟨_, rfl, h⟩ := h
  obtain ⟨_, rfl, h⟩ := h
  obtain ⟨rfl, _⟩ := h
  exact rfl
def eEntryS (x : List GEntry) : D := rowD 51 2 eEntry x
def eTable (x : GTable) : D := eEntryS x.Entries
theorem sinv_Table {w : World} {x : GTable} {us : List Value} {b : List Nat} (h : Own w (eTable x) us b) : ∃ (A0 : Option Addr) (n0 p0 : Nat), us = [.slice A0 n0 p0] := by
  obtain ⟨c0, _, _, _, rfl, _, h, s0⟩ := h
  obtain ⟨rfl, _⟩ := h
  obtain ⟨A0, n0, p0, rfl⟩ := slice_of s0
  exact ⟨A0, n0, p0, rfl⟩
theorem inv_Table {w : World} {x : GTable} {us : List Value} {b : List Nat} (h : Own w (eTable x) us b) : ∃ c0 : Value, us = [c0] := by
  obtain ⟨c0, _, _, _, rfl, _, h, _⟩ := h
  obtain ⟨rfl, _⟩ := h
  exact ⟨c0, rfl⟩
def eMachine (x : GMachine) : D := (eFrames x.Frames).app (eTable x.Table)
theorem sinv_Machine {w : World} {x : GMachine} {us : List Value} {b : List Nat} (h : Own w (eMachine x) us b) : ∃ (A0 : Option Addr) (n0 p0 : Nat) (A1 : Option Addr) (n1 p1 : Nat) (A2 : Option Addr) (n2 p2 : Nat), us = [.slice A0 n0 p0, .slice A1 n1 p1, .slice A2 n2 p2] := by
  obtain ⟨c0, _, _, _, rfl, _, h, s0⟩ := h
  obtain ⟨c1, _, _, _, rfl, _, h, s1⟩ := h
  obtain ⟨c2, _, _, _, rfl, _, h, s2⟩ := h
  obtain ⟨rfl, _⟩ := h
  obtain ⟨A0, n0, p0, rfl⟩ := slice_of s0
  obtain ⟨A1, n1, p1, rfl⟩ := slice_of s1
  obtain ⟨A2, n2, p2, rfl⟩ := slice_of s2
  exact ⟨A0, n0, p0, A1, n1, p1, A2, n2, p2, rfl⟩
theorem inv_Machine {w : World} {x : GMachine} {us : List Value} {b : List Nat} (h : Own w (eMachine x) us b) : ∃ c0 c1 c2 : Value, us = [c0, c1, c2] := by
  obtain ⟨c0, _, _, _, rfl, _, h, _⟩ := h
  obtain ⟨c1, _, _, _, rfl, _, h, _⟩ := h
  obtain ⟨c2, _, _, _, rfl, _, h, _⟩ := h
  obtain ⟨rfl, _⟩ := h
  exact ⟨c0, c1, c2, rfl⟩
def eKernel (x : GKernel) : D := (eMachine x.Machine).app ((eI x.Calls).app (eIntS x.Refuse))
theorem sinv_Kernel {w : World} {x : GKernel} {us : List Value} {b : List Nat} (h : Own w (eKernel x) us b) : ∃ (A0 : Option Addr) (n0 p0 : Nat) (A1 : Option Addr) (n1 p1 : Nat) (A2 : Option Addr) (n2 p2 : Nat) (A4 : Option Addr) (n4 p4 : Nat), us = [.slice A0 n0 p0, .slice A1 n1 p1, .slice A2 n2 p2, .int .i64 x.Calls, .slice A4 n4 p4] := by
  obtain ⟨c0, _, _, _, rfl, _, h, s0⟩ := h
  obtain ⟨c1, _, _, _, rfl, _, h, s1⟩ := h
  obtain ⟨c2, _, _, _, rfl, _, h, s2⟩ := h
  obtain ⟨_, rfl, h⟩ := h
  obtain ⟨c4, _, _, _, rfl, _, h, s4⟩ := h
  obtain ⟨rfl, _⟩ := h
  obtain ⟨A0, n0, p0, rfl⟩ := slice_of s0
  obtain ⟨A1, n1, p1, rfl⟩ := slice_of s1
  obtain ⟨A2, n2, p2, rfl⟩ := slice_of s2
  obtain ⟨A4, n4, p4, rfl⟩ := slice_of s4
  exact ⟨A0, n0, p0, A1, n1, p1, A2, n2, p2, A4, n4, p4, rfl⟩
theorem inv_Kernel {w : World} {x : GKernel} {us : List Value} {b : List Nat} (h : Own w (eKernel x) us b) : ∃ c0 c1 c2 c3 : Value, us = [c0, c1, c2, .int .i64 x.Calls, c3] := by
  obtain ⟨c0, _, _, _, rfl, _, h, _⟩ := h
  obtain ⟨c1, _, _, _, rfl, _, h, _⟩ := h
  obtain ⟨c2, _, _, _, rfl, _, h, _⟩ := h
  obtain ⟨_, rfl, h⟩ := h
  obtain ⟨c3, _, _, _, rfl, _, h, _⟩ := h
  obtain ⟨rfl, _⟩ := h
  exact ⟨c0, c1, c2, c3, rfl⟩
theorem parts_Frames {w : World} {x : GFrames} {c0 c1 : Value} {bs : List Nat} (h : Own w (eFrames x) [c0, c1] bs) : ∃ b0 b1 : List Nat, bs = b0 ++ (b1) ∧ Own w (eIntSS x.Cells) [c0] b0 ∧ Own w (eBoolS x.Used) [c1] b1 := by
  obtain ⟨b0, r0, e0, h0, t0⟩ := own_split h
  have h1 := t0
  refine ⟨b0, r0, ?_, h0, h1⟩
  simp [e0]
theorem sz_Frames (x : GFrames) : (eFrames x).sz = (eIntSS x.Cells).sz + ((eBoolS x.Used).sz) := by
  show (D.sz _) = _
  unfold eFrames
  rw [sz_app]
theorem cntTop_Frames (x : GFrames) : (eFrames x).cntTop = (eIntSS x.Cells).cntTop + ((eBoolS x.Used).cntTop) := by
  show (D.cntTop _) = _
  unfold eFrames
  rw [cntTop_app]
theorem cnt_Frames (x : GFrames) : (eFrames x).cnt = (eIntSS x.Cells).cnt + ((eBoolS x.Used).cnt) := by
  show (D.cnt _) = _
  unfold eFrames
  rw [cnt_app]
theorem sz_Entry (x : GEntry) : (eEntry x).sz = (eI x.Mode).sz + ((eI x.Frame).sz) := by
  show (D.sz _) = _
  unfold eEntry
  rw [sz_app]
theorem cntTop_Entry (x : GEntry) : (eEntry x).cntTop = (eI x.Mode).cntTop + ((eI x.Frame).cntTop) := by
  show (D.cntTop _) = _
  unfold eEntry
  rw [cntTop_app]
theorem cnt_Entry (x : GEntry) : (eEntry x).cnt = (eI x.Mode).cnt + ((eI x.Frame).cnt) := by
  show (D.cnt _) = _
  unfold eEntry
  rw [cnt_app]
theorem parts_Table {w : World} {x : GTable} {c0 : Value} {bs : List Nat} (h : Own w (eTable x) [c0] bs) : ∃ b0 : List Nat, bs = b0 ∧ Own w (eEntryS x.Entries) [c0] b0 := by
  have h0 := h
  refine ⟨bs, ?_, h0⟩
  rfl
theorem sz_Table (x : GTable) : (eTable x).sz = (eEntryS x.Entries).sz := by
  show (D.sz _) = _
  unfold eTable
  rfl
theorem cntTop_Table (x : GTable) : (eTable x).cntTop = (eEntryS x.Entries).cntTop := by
  show (D.cntTop _) = _
  unfold eTable
  rfl
theorem cnt_Table (x : GTable) : (eTable x).cnt = (eEntryS x.Entries).cnt := by
  show (D.cnt _) = _
  unfold eTable
  rfl
theorem parts_Machine {w : World} {x : GMachine} {c0 c1 c2 : Value} {bs : List Nat} (h : Own w (eMachine x) [c0, c1, c2] bs) : ∃ b0 b1 : List Nat, bs = b0 ++ (b1) ∧ Own w (eFrames x.Frames) [c0, c1] b0 ∧ Own w (eTable x.Table) [c2] b1 := by
  obtain ⟨b0, r0, e0, h0, t0⟩ := own_split h
  have h1 := t0
  refine ⟨b0, r0, ?_, h0, h1⟩
  simp [e0]
theorem sz_Machine (x : GMachine) : (eMachine x).sz = (eFrames x.Frames).sz + ((eTable x.Table).sz) := by
  show (D.sz _) = _
  unfold eMachine
  rw [sz_app]
theorem cntTop_Machine (x : GMachine) : (eMachine x).cntTop = (eFrames x.Frames).cntTop + ((eTable x.Table).cntTop) := by
  show (D.cntTop _) = _
  unfold eMachine
  rw [cntTop_app]
theorem cnt_Machine (x : GMachine) : (eMachine x).cnt = (eFrames x.Frames).cnt + ((eTable x.Table).cnt) := by
  show (D.cnt _) = _
  unfold eMachine
  rw [cnt_app]
theorem parts_Kernel {w : World} {x : GKernel} {c0 c1 c2 c3 : Value} {bs : List Nat} (h : Own w (eKernel x) [c0, c1, c2, .int .i64 x.Calls, c3] bs) : ∃ b0 b2 : List Nat, bs = b0 ++ (b2) ∧ Own w (eMachine x.Machine) [c0, c1, c2] b0 ∧ Own w (eIntS x.Refuse) [c3] b2 := by
  obtain ⟨b0, r0, e0, h0, t0⟩ := own_split h
  obtain ⟨b1, r1, e1, h1, t1⟩ := own_split t0
  have h2 := t1
  have z1 : b1 = [] := by exact own_lit h1
  refine ⟨b0, r1, ?_, h0, h2⟩
  simp [e0, e1, z1]
theorem sz_Kernel (x : GKernel) : (eKernel x).sz = (eMachine x.Machine).sz + ((eI x.Calls).sz + ((eIntS x.Refuse).sz)) := by
  show (D.sz _) = _
  unfold eKernel
  rw [sz_app, sz_app]
theorem cntTop_Kernel (x : GKernel) : (eKernel x).cntTop = (eMachine x.Machine).cntTop + ((eI x.Calls).cntTop + ((eIntS x.Refuse).cntTop)) := by
  show (D.cntTop _) = _
  unfold eKernel
  rw [cntTop_app, cntTop_app]
theorem cnt_Kernel (x : GKernel) : (eKernel x).cnt = (eMachine x.Machine).cnt + ((eI x.Calls).cnt + ((eIntS x.Refuse).cnt)) := by
  show (D.cnt _) = _
  unfold eKernel
  rw [cnt_app, cnt_app]
theorem rinv_IntS {w : World} {x : List Int} {us : List Value} (h : Raw w (eIntS x) us) : ∃ c0 : Value, us = [c0] := by
  obtain ⟨c0, _, rfl, h, _⟩ := h
  obtain rfl := h
  exact ⟨c0, rfl⟩
theorem rinv_IntSS {w : World} {x : List (List Int)} {us : List Value} (h : Raw w (eIntSS x) us) : ∃ c0 : Value, us = [c0] := by
  obtain ⟨c0, _, rfl, h, _⟩ := h
  obtain rfl := h
  exact ⟨c0, rfl⟩
theorem rinv_BoolS {w : World} {x : List Bool} {us : List Value} (h : Raw w (eBoolS x) us) : ∃ c0 : Value, us = [c0] := by
  obtain ⟨c0, _, rfl, h, _⟩ := h
  obtain rfl := h
  exact ⟨c0, rfl⟩
theorem rinv_Frames {w : World} {x : GFrames} {us : List Value} (h : Raw w (eFrames x) us) : ∃ c0 c1 : Value, us = [c0, c1] := by
  obtain ⟨c0, _, rfl, h, _⟩ := h
  obtain ⟨c1, _, rfl, h, _⟩ := h
  obtain rfl := h
  exact ⟨c0, c1, rfl⟩
theorem rinv_Entry {w : World} {x : GEntry} {us : List Value} (h : Raw w (eEntry x) us) : us = [.int .i64 x.Mode, .int .i64 x.Frame] := by
  obtain ⟨_, rfl, h⟩ := h
  obtain ⟨_, rfl, h⟩ := h
  obtain rfl := h
  exact rfl
theorem rinv_EntryS {w : World} {x : List GEntry} {us : List Value} (h : Raw w (eEntryS x) us) : ∃ c0 : Value, us = [c0] := by
  obtain ⟨c0, _, rfl, h, _⟩ := h
  obtain rfl := h
  exact ⟨c0, rfl⟩
theorem rinv_Table {w : World} {x : GTable} {us : List Value} (h : Raw w (eTable x) us) : ∃ c0 : Value, us = [c0] := by
  obtain ⟨c0, _, rfl, h, _⟩ := h
  obtain rfl := h
  exact ⟨c0, rfl⟩
theorem rinv_Machine {w : World} {x : GMachine} {us : List Value} (h : Raw w (eMachine x) us) : ∃ c0 c1 c2 : Value, us = [c0, c1, c2] := by
  obtain ⟨c0, _, rfl, h, _⟩ := h
  obtain ⟨c1, _, rfl, h, _⟩ := h
  obtain ⟨c2, _, rfl, h, _⟩ := h
  obtain rfl := h
  exact ⟨c0, c1, c2, rfl⟩
theorem rinv_Kernel {w : World} {x : GKernel} {us : List Value} (h : Raw w (eKernel x) us) : ∃ c0 c1 c2 c4 : Value, us = [c0, c1, c2, .int .i64 x.Calls, c4] := by
  obtain ⟨c0, _, rfl, h, _⟩ := h
  obtain ⟨c1, _, rfl, h, _⟩ := h
  obtain ⟨c2, _, rfl, h, _⟩ := h
  obtain ⟨_, rfl, h⟩ := h
  obtain ⟨c4, _, rfl, h, _⟩ := h
  obtain rfl := h
  exact ⟨c0, c1, c2, c4, rfl⟩
theorem rinv_Int {w : World} {x : Int} {us : List Value} (h : Raw w (eI x) us) : us = [.int .i64 x] := by
  obtain ⟨_, rfl, h⟩ := h
  obtain rfl := h
  exact rfl
theorem rinv_Bool {w : World} {x : Bool} {us : List Value} (h : Raw w (eB x) us) : us = [.bool x] := by
  obtain ⟨_, rfl, h⟩ := h
  obtain rfl := h
  exact rfl
theorem rinv_String {w : World} {x : ByteArray} {us : List Value} (h : Raw w (eS x) us) : us = [.string x] := by
  obtain ⟨_, rfl, h⟩ := h
  obtain rfl := h
  exact rfl
theorem cntb_IntS (x : List Int) : (eIntS x).cnt ≤ 16 * (eIntS x).sz := cnt_row (fun x => by show 1 ≤ _; omega) x
theorem cntb_IntSS (x : List (List Int)) : (eIntSS x).cnt ≤ 16 * (eIntSS x).sz := cnt_row (fun x => by have := cntb_IntS x; omega) x
theorem cntb_BoolS (x : List Bool) : (eBoolS x).cnt ≤ 16 * (eBoolS x).sz := cnt_row (fun x => by show 1 ≤ _; omega) x
theorem cntb_Frames (x : GFrames) : (eFrames x).cnt ≤ 0 + 16 * (eFrames x).sz := by
  rw [cnt_Frames, sz_Frames]
  have h0 : (eIntSS x.Cells).cnt ≤ 0 + 16 * (eIntSS x.Cells).sz := by have := cntb_IntSS x.Cells; omega
  have h1 : (eBoolS x.Used).cnt ≤ 0 + 16 * (eBoolS x.Used).sz := by have := cntb_BoolS x.Used; omega
  omega
theorem cntb_Entry (x : GEntry) : (eEntry x).cnt ≤ 2 + 16 * (eEntry x).sz := by
  rw [cnt_Entry, sz_Entry]
  have h0 : (eI x.Mode).cnt ≤ 1 + 16 * (eI x.Mode).sz := by show 1 ≤ _; omega
  have h1 : (eI x.Frame).cnt ≤ 1 + 16 * (eI x.Frame).sz := by show 1 ≤ _; omega
  omega
theorem cntb_EntryS (x : List GEntry) : (eEntryS x).cnt ≤ 16 * (eEntryS x).sz := cnt_row (fun x => by have := cntb_Entry x; omega) x
theorem cntb_Table (x : GTable) : (eTable x).cnt ≤ 0 + 16 * (eTable x).sz := by
  rw [cnt_Table, sz_Table]
  have h0 : (eEntryS x.Entries).cnt ≤ 0 + 16 * (eEntryS x.Entries).sz := by have := cntb_EntryS x.Entries; omega
  omega
theorem cntb_Machine (x : GMachine) : (eMachine x).cnt ≤ 0 + 16 * (eMachine x).sz := by
  rw [cnt_Machine, sz_Machine]
  have h0 : (eFrames x.Frames).cnt ≤ 0 + 16 * (eFrames x.Frames).sz := by have := cntb_Frames x.Frames; omega
  have h1 : (eTable x.Table).cnt ≤ 0 + 16 * (eTable x.Table).sz := by have := cntb_Table x.Table; omega
  omega
theorem cntb_Kernel (x : GKernel) : (eKernel x).cnt ≤ 1 + 16 * (eKernel x).sz := by
  rw [cnt_Kernel, sz_Kernel]
  have h0 : (eMachine x.Machine).cnt ≤ 0 + 16 * (eMachine x.Machine).sz := by have := cntb_Machine x.Machine; omega
  have h1 : (eI x.Calls).cnt ≤ 1 + 16 * (eI x.Calls).sz := by show 1 ≤ _; omega
  have h2 : (eIntS x.Refuse).cnt ≤ 0 + 16 * (eIntS x.Refuse).sz := by have := cntb_IntS x.Refuse; omega
  omega
end Tr
end Go.Proofs.Ytkcoejodhdnoiaa

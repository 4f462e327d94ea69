/- The cells of the program's structs and slices. -/
import Derived.Test.YtlkkiopjknbomaaProg
import Derived.Test.YtlkkiopjknbomaaMod
import Derived.Test.YtlkkiopjknbomaaTreeOps
namespace Go.Proofs.Ytlkkiopjknbomaa
open Go.RowKit
namespace Tr
def eIntS (x : List Int) : D := rowD 3 1 eI x
def ePlan (x : GPlan) : D := (eI x.Keep).app ((eI x.Move).app (eIntS x.Cells))
theorem sinv_Plan {w : World} {x : GPlan} {us : List Value} {b : List Nat} (h : Own w (ePlan x) us b) : ∃ (A2 : Option Addr) (n2 p2 : Nat), us = [.int .i64 x.Keep, .int .i64 x.Move, .slice A2 n2 p2] := by
  obtain ⟨_, rfl, h⟩ := h
  obtain ⟨_, rfl, h⟩ := h
  obtain ⟨c2, _, _, _, rfl, _, h, s2⟩ := h
  obtain ⟨rfl, _⟩ := h
  obtain ⟨A2, n2, p2, rfl⟩ := slice_of s2
  exact ⟨A2, n2, p2, rfl⟩
theorem inv_Plan {w : World} {x : GPlan} {us : List Value} {b : List Nat} (h : Own w (ePlan x) us b) : ∃ c0 : Value, us = [.int .i64 x.Keep, .int .i64 x.Move, c0] := by
  obtain ⟨_, rfl, h⟩ := h
  obtain ⟨_, rfl, h⟩ := h
  obtain ⟨c0, _, _, _, rfl, _, h, _⟩ := h
  obtain ⟨rfl, _⟩ := h
  exact ⟨c0, rfl⟩
def eJob (x : GJob) : D := (ePlan x.Plan).app ((eI x.Phase).app (eI x.Next))
theorem sinv_Job {w : World} {x : GJob} {us : List Value} {b : List Nat} (h : Own w (eJob x) us b) : ∃ (A2 : Option Addr) (n2 p2 : Nat), us = [.int .i64 x.Plan.Keep, .int .i64 x.Plan.Move, .slice A2 n2 p2, .int .i64 x.Phase, .int .i64 x.Next] := by
  obtain ⟨_, rfl, h⟩ := h
  obtain ⟨_, rfl, h⟩ := h
  obtain ⟨c2, _, _, _, rfl, _, h, s2⟩ := h
  obtain ⟨_, rfl, h⟩ := h
  obtain ⟨_, rfl, h⟩ := h
  obtain ⟨rfl, _⟩ := h
  obtain ⟨A2, n2, p2, rfl⟩ := slice_of s2
  exact ⟨A2, n2, p2, rfl⟩
theorem inv_Job {w : World} {x : GJob} {us : List Value} {b : List Nat} (h : Own w (eJob x) us b) : ∃ c0 : Value, us = [.int .i64 x.Plan.Keep, .int .i64 x.Plan.Move, c0, .int .i64 x.Phase, .int .i64 x.Next] := by
  obtain ⟨_, rfl, h⟩ := h
  obtain ⟨_, rfl, h⟩ := h
  obtain ⟨c0, _, _, _, rfl, _, h, _⟩ := h
  obtain ⟨_, rfl, h⟩ := h
  obtain ⟨_, rfl, h⟩ := h
  obtain ⟨rfl, _⟩ := h
  exact ⟨c0, rfl⟩
theorem parts_Plan {w : World} {x : GPlan} {c0 : Value} {bs : List Nat} (h : Own w (ePlan x) [.int .i64 x.Keep, .int .i64 x.Move, c0] bs) : ∃ b2 : List Nat, bs = b2 ∧ Own w (eIntS x.Cells) [c0] b2 := by
  obtain ⟨b0, r0, e0, h0, t0⟩ := own_split h
  obtain ⟨b1, r1, e1, h1, t1⟩ := own_split t0
  have h2 := t1
  have z0 : b0 = [] := by exact own_lit h0
  have z1 : b1 = [] := by exact own_lit h1
  refine ⟨r1, ?_, h2⟩
  simp [e0, e1, z0, z1]
theorem sz_Plan (x : GPlan) : (ePlan x).sz = (eI x.Keep).sz + ((eI x.Move).sz + ((eIntS x.Cells).sz)) := by
  show (D.sz _) = _
  unfold ePlan
  rw [sz_app, sz_app]
theorem cntTop_Plan (x : GPlan) : (ePlan x).cntTop = (eI x.Keep).cntTop + ((eI x.Move).cntTop + ((eIntS x.Cells).cntTop)) := by
  show (D.cntTop _) = _
  unfold ePlan
  rw [cntTop_app, cntTop_app]
theorem cnt_Plan (x : GPlan) : (ePlan x).cnt = (eI x.Keep).cnt + ((eI x.Move).cnt + ((eIntS x.Cells).cnt)) := by
  show (D.cnt _) = _
  unfold ePlan
  rw [cnt_app, cnt_app]
theorem parts_Job {w : World} {x : GJob} {c0 : Value} {bs : List Nat} (h : Own w (eJob x) [.int .i64 x.Plan.Keep, .int .i64 x.Plan.Move, c0, .int .i64 x.Phase, .int .i64 x.Next] bs) : ∃ b0 : List Nat, bs = b0 ∧ Own w (ePlan x.Plan) [.int .i64 x.Plan.Keep, .int .i64 x.Plan.Move, c0] b0 := by
  obtain ⟨b0, r0, e0, h0, t0⟩ := own_split h
  obtain ⟨b1, r1, e1, h1, t1⟩ := own_split t0
  have h2 := t1
  have z1 : b1 = [] := by exact own_lit h1
  have z2 : r1 = [] := by exact own_lit h2
  refine ⟨b0, ?_, h0⟩
  simp [e0, e1, z1, z2]
theorem sz_Job (x : GJob) : (eJob x).sz = (ePlan x.Plan).sz + ((eI x.Phase).sz + ((eI x.Next).sz)) := by
  show (D.sz _) = _
  unfold eJob
  rw [sz_app, sz_app]
theorem cntTop_Job (x : GJob) : (eJob x).cntTop = (ePlan x.Plan).cntTop + ((eI x.Phase).cntTop + ((eI x.Next).cntTop)) := by
  show (D.cntTop _) = _
  unfold eJob
  rw [cntTop_app, cntTop_app]
theorem cnt_Job (x : GJob) : (eJob x).cnt = (ePlan x.Plan).cnt + ((eI x.Phase).cnt + ((eI x.Next).cnt)) := by
  show (D.cnt _) = _
  unfold eJob
  rw [cnt_app, cnt_app]
theorem rinv_IntS {w : World} {x : List Int} {us : List Value} (h : Raw w (eIntS x) us) : ∃ c0 : Value, us = [c0] := by
  obtain ⟨c0, _, rfl, h, _⟩ := h
  obtain rfl := h
  exact ⟨c0, rfl⟩
theorem rinv_Plan {w : World} {x : GPlan} {us : List Value} (h : Raw w (ePlan x) us) : ∃ c2 : Value, us = [.int .i64 x.Keep, .int .i64 x.Move, c2] := by
  obtain ⟨_, rfl, h⟩ := h
  obtain ⟨_, rfl, h⟩ := h
  obtain ⟨c2, _, rfl, h, _⟩ := h
  obtain rfl := h
  exact ⟨c2, rfl⟩
theorem rinv_Job {w : World} {x : GJob} {us : List Value} (h : Raw w (eJob x) us) : ∃ c2 : Value, us = [.int .i64 x.Plan.Keep, .int .i64 x.Plan.Move, c2, .int .i64 x.Phase, .int .i64 x.Next] := by
  obtain ⟨_, rfl, h⟩ := h
  obtain ⟨_, rfl, h⟩ := h
  obtain ⟨c2, _, rfl, h, _⟩ := h
  obtain ⟨_, rfl, h⟩ := h
  obtain ⟨_, rfl, h⟩ := h
  obtain rfl := h
  exact ⟨c2, rfl⟩
theorem rinv_Int {w : World} {x : Int} {us : List Value} (h : Raw w (eI x) us) : us = [.int .i64 x] := by
  obtain ⟨_, rfl, h⟩ := h
  obtain rfl := h
  exact rfl
theorem rinv_Bool {w : World} {x : Bool} {us : List Value} (h : Raw w (eB x) us) : us = [.bool x] := by
  obtain ⟨_, rfl, h⟩ := h
  obtain rfl := h
  exact rfl
theorem rinv_String {w : World} {x : ByteArray} {us : List Value} (h : Raw w (eS x) us) : us = [.string x] := by
  obtain ⟨_, rfl, h⟩ := h
  obtain rfl := h
  exact rfl
theorem cntb_IntS (x : List Int) : (eIntS x).cnt ≤ 16 * (eIntS x).sz := cnt_row (fun x => by show 1 ≤ _; omega) x
theorem cntb_Plan (x : GPlan) : (ePlan x).cnt ≤ 2 + 16 * (ePlan x).sz := by
  rw [cnt_Plan, sz_Plan]
  have h0 : (eI x.Keep).cnt ≤ 1 + 16 * (eI x.Keep).sz := by show 1 ≤ _; omega
  have h1 : (eI x.Move).cnt ≤ 1 + 16 * (eI x.Move).sz := by show 1 ≤ _; omega
  have h2 : (eIntS x.Cells).cnt ≤ 0 + 16 * (eIntS x.Cells).sz := by have := cntb_IntS x.Cells; omega
  omega
theorem cntb_Job (x : GJob) : (eJob x).cnt ≤ 4 + 16 * (eJob x).sz := by
  rw [cnt_Job, sz_Job]
  have h0 : (ePlan x.Plan).cnt ≤ 2 + 16 * (ePlan x.Plan).sz := by have := cntb_Plan x.Plan; omega
  have h1 : (eI x.Phase).cnt ≤ 1 + 16 * (eI x.Phase).sz := by show 1 ≤ _; omega
  have h2 : (eI x.Next).cnt ≤ 1 + 16 * (eI x.Next).sz := by show 1 ≤ _; omega
  omega
end Tr
end Go.Proofs.Ytlkkiopjknbomaa

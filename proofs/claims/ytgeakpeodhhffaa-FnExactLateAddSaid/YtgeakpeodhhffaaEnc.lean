/- The cells of the program's structs and slices. -/
import Derived.Test.YtgeakpeodhhffaaProg
import Derived.Test.YtgeakpeodhhffaaMod
import Derived.Test.YtgeakpeodhhffaaTreeOps
namespace Go.Proofs.Ytgeakpeodhhffaa
open Go.RowKit
namespace Tr
def eLate (x : GLate) : D := (eI x.Index).app (eI x.Slot)
theorem inv_Late {w : World} {x : GLate} {us : List Value} {b : List Nat} (h : Own w (eLate x) us b) : us = [.int .i64 x.Index, .int .i64 x.Slot] := by
  obtain ⟨_, rfl, h⟩ := h
  obtain ⟨_, rfl, h⟩ := h
  obtain ⟨rfl, _⟩ := h
  exact rfl
def eLateS (x : List GLate) : D := rowD 30 2 eLate x
theorem sz_Late (x : GLate) : (eLate x).sz = (eI x.Index).sz + ((eI x.Slot).sz) := by
  show (D.sz _) = _
  unfold eLate
  rw [sz_app]
theorem cntTop_Late (x : GLate) : (eLate x).cntTop = (eI x.Index).cntTop + ((eI x.Slot).cntTop) := by
  show (D.cntTop _) = _
  unfold eLate
  rw [cntTop_app]
theorem cnt_Late (x : GLate) : (eLate x).cnt = (eI x.Index).cnt + ((eI x.Slot).cnt) := by
  show (D.cnt _) = _
  unfold eLate
  rw [cnt_app]
theorem rinv_Late {w : World} {x : GLate} {us : List Value} (h : Raw w (eLate x) us) : us = [.int .i64 x.Index, .int .i64 x.Slot] := by
  obtain ⟨_, rfl, h⟩ := h
  obtain ⟨_, rfl, h⟩ := h
  obtain rfl := h
  exact rfl
theorem rinv_LateS {w : World} {x : List GLate} {us : List Value} (h : Raw w (eLateS x) us) : ∃ c0 : Value, us = [c0] := by
  obtain ⟨c0, _, rfl, h, _⟩ := h
  obtain rfl := h
  exact ⟨c0, rfl⟩
theorem rinv_Int {w : World} {x : Int} {us : List Value} (h : Raw w (eI x) us) : us = [.int .i64 x] := by
  obtain ⟨_, rfl, h⟩ := h
  obtain rfl := h
  exact rfl
theorem rinv_Bool {w : World} {x : Bool} {us : List Value} (h : Raw w (eB x) us) : us = [.bool x] := by
  obtain ⟨_, rfl, h⟩ := h
  obtain rfl := h
  exact rfl
theorem rinv_String {w : World} {x : ByteArray} {us : List Value} (h : Raw w (eS x) us) : us = [.string x] := by
  obtain ⟨_, rfl, h⟩ := h
  obtain rfl := h
  exact rfl
theorem cntb_Late (x : GLate) : (eLate x).cnt ≤ 2 + 16 * (eLate x).sz := by
  rw [cnt_Late, sz_Late]
  have h0 : (eI x.Index).cnt ≤ 1 + 16 * (eI x.Index).sz := by show 1 ≤ _; omega
  have h1 : (eI x.Slot).cnt ≤ 1 + 16 * (eI x.Slot).sz := by show 1 ≤ _; omega
  omega
theorem cntb_LateS (x : List GLate) : (eLateS x).cnt ≤ 16 * (eLateS x).sz := cnt_row (fun x => by have := cntb_Late x; omega) x
end Tr
end Go.Proofs.Ytgeakpeodhhffaa

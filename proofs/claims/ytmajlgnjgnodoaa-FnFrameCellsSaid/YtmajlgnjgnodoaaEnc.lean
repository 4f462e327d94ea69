/- The cells of the program's structs and slices. -/
import Derived.Test.YtmajlgnjgnodoaaProg
import Derived.Test.YtmajlgnjgnodoaaMod
import Derived.Test.YtmajlgnjgnodoaaTreeOps
namespace Go.Proofs.Ytmajlgnjgnodoaa
open Go.RowKit
namespace Tr
def eBoolS (x : List Bool) : D := rowD 4 1 eB x
def eIntS (x : List Int) : D := rowD 3 1 eI x
def eIntSS (x : List (List Int)) : D := rowD 38 1 eIntS x
def eFrames (x : GFrames) : D := (eIntSS x.Cells).app (eBoolS x.Used)
theorem sinv_Frames {w : World} {x : GFrames} {us : List Value} {b : List Nat} (h : Own w (eFrames x) us b) : ∃ (A0 : Option Addr) (n0 p0 : Nat) (A1 : Option Addr) (n1 p1 : Nat), us = [.slice A0 n0 p0, .slice A1 n1 p1] := by
  obtain ⟨c0, _, _, _, rfl, _, h, s0⟩ := h
  obtain ⟨c1, _, _, _, rfl, _, h, s1⟩ := h
  obtain ⟨rfl, _⟩ := h
  obtain ⟨A0, n0, p0, rfl⟩ := slice_of s0
  obtain ⟨A1, n1, p1, rfl⟩ := slice_of s1
  exact ⟨A0, n0, p0, A1, n1, p1, rfl⟩
theorem inv_Frames {w : World} {x : GFrames} {us : List Value} {b : List Nat} (h : Own w (eFrames x) us b) : ∃ c0 c1 : Value, us = [c0, c1] := by
  obtain ⟨c0, _, _, _, rfl, _, h, _⟩ := h
  obtain ⟨c1, _, _, _, rfl, _, h, _⟩ := h
  obtain ⟨rfl, _⟩ := h
  exact ⟨c0, c1, rfl⟩
theorem parts_Frames {w : World} {x : GFrames} {c0 c1 : Value} {bs : List Nat} (h : Own w (eFrames x) [c0, c1] bs) : ∃ b0 b1 : List Nat, bs = b0 ++ (b1) ∧ Own w (eIntSS x.Cells) [c0] b0 ∧ Own w (eBoolS x.Used) [c1] b1 := by
  obtain ⟨b0, r0, e0, h0, t0⟩ := own_split h
  have h1 := t0
  refine ⟨b0, r0, ?_, h0, h1⟩
  simp [e0]
theorem sz_Frames (x : GFrames) : (eFrames x).sz = (eIntSS x.Cells).sz + ((eBoolS x.Used).sz) := by
  show (D.sz _) = _
  unfold eFrames
  rw [sz_app]
theorem cntTop_Frames (x : GFrames) : (eFrames x).cntTop = (eIntSS x.Cells).cntTop + ((eBoolS x.Used).cntTop) := by
  show (D.cntTop _) = _
  unfold eFrames
  rw [cntTop_app]
theorem cnt_Frames (x : GFrames) : (eFrames x).cnt = (eIntSS x.Cells).cnt + ((eBoolS x.Used).cnt) := by
  show (D.cnt _) = _
  unfold eFrames
  rw [cnt_app]
theorem rinv_BoolS {w : World} {x : List Bool} {us : List Value} (h : Raw w (eBoolS x) us) : ∃ c0 : Value, us = [c0] := by
  obtain ⟨c0, _, rfl, h, _⟩ := h
  obtain rfl := h
  exact ⟨c0, rfl⟩
theorem rinv_IntS {w : World} {x : List Int} {us : List Value} (h : Raw w (eIntS x) us) : ∃ c0 : Value, us = [c0] := by
  obtain ⟨c0, _, rfl, h, _⟩ := h
  obtain rfl := h
  exact ⟨c0, rfl⟩
theorem rinv_IntSS {w : World} {x : List (List Int)} {us : List Value} (h : Raw w (eIntSS x) us) : ∃ c0 : Value, us = [c0] := by
  obtain ⟨c0, _, rfl, h, _⟩ := h
  obtain rfl := h
  exact ⟨c0, rfl⟩
theorem rinv_Frames {w : World} {x : GFrames} {us : List Value} (h : Raw w (eFrames x) us) : ∃ c0 c1 : Value, us = [c0, c1] := by
  obtain ⟨c0, _, rfl, h, _⟩ := h
  obtain ⟨c1, _, rfl, h, _⟩ := h
  obtain rfl := h
  exact ⟨c0, c1, rfl⟩
theorem rinv_Int {w : World} {x : Int} {us : List Value} (h : Raw w (eI x) us) : us = [.int .i64 x] := by
  obtain ⟨_, rfl, h⟩ := h
  obtain rfl := h
  exact rfl
theorem rinv_Bool {w : World} {x : Bool} {us : List Value} (h : Raw w (eB x) us) : us = [.bool x] := by
  obtain ⟨_, rfl, h⟩ := h
  obtain rfl := h
  exact rfl
theorem rinv_String {w : World} {x : ByteArray} {us : List Value} (h : Raw w (eS x) us) : us = [.string x] := by
  obtain ⟨_, rfl, h⟩ := h
  obtain rfl := h
  exact rfl
theorem cntb_BoolS (x : List Bool) : (eBoolS x).cnt ≤ 16 * (eBoolS x).sz := cnt_row (fun x => by show 1 ≤ _; omega) x
theorem cntb_IntS (x : List Int) : (eIntS x).cnt ≤ 16 * (eIntS x).sz := cnt_row (fun x => by show 1 ≤ _; omega) x
theorem cntb_IntSS (x : List (List Int)) : (eIntSS x).cnt ≤ 16 * (eIntSS x).sz := cnt_row (fun x => by have := cntb_IntS x; omega) x
theorem cntb_Frames (x : GFrames) : (eFrames x).cnt ≤ 0 + 16 * (eFrames x).sz := by
  rw [cnt_Frames, sz_Frames]
  have h0 : (eIntSS x.Cells).cnt ≤ 0 + 16 * (eIntSS x.Cells).sz := by have := cntb_IntSS x.Cells; omega
  have h1 : (eBoolS x.Used).cnt ≤ 0 + 16 * (eBoolS x.Used).sz := by have := cntb_BoolS x.Used; omega
  omega
end Tr
end Go.Proofs.Ytmajlgnjgnodoaa

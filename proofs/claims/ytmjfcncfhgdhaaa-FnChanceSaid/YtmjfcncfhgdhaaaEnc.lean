/- The cells of the program's structs and slices. -/
import Derived.Test.YtmjfcncfhgdhaaaProg
import Derived.Test.YtmjfcncfhgdhaaaMod
import Derived.Test.YtmjfcncfhgdhaaaTreeOps
namespace Go.Proofs.Ytmjfcncfhgdhaaa
open Go.RowKit
namespace Tr
def eFraction (x : GFraction) : D := (eI x.Num).app (eI x.Den)
theorem inv_Fraction {w : World} {x : GFraction} {us : List Value} {b : List Nat} (h : Own w (eFraction x) us b) : us = [.int .i64 x.Num, .int .i64 x.Den] := by
  obtain ⟨_, rfl, h⟩ := h
  obtain ⟨_, rfl, h⟩ := h
  obtain ⟨rfl, _⟩ := h
  exact rfl
theorem sz_Fraction (x : GFraction) : (eFraction x).sz = (eI x.Num).sz + ((eI x.Den).sz) := by
  show (D.sz _) = _
  unfold eFraction
  rw [sz_app]
theorem cntTop_Fraction (x : GFraction) : (eFraction x).cntTop = (eI x.Num).cntTop + ((eI x.Den).cntTop) := by
  show (D.cntTop _) = _
  unfold eFraction
  rw [cntTop_app]
theorem cnt_Fraction (x : GFraction) : (eFraction x).cnt = (eI x.Num).cnt + ((eI x.Den).cnt) := by
  show (D.cnt _) = _
  unfold eFraction
  rw [cnt_app]
theorem rinv_Fraction {w : World} {x : GFraction} {us : List Value} (h : Raw w (eFraction x) us) : us = [.int .i64 x.Num, .int .i64 x.Den] := by
  obtain ⟨_, rfl, h⟩ := h
  obtain ⟨_, rfl, h⟩ := h
  obtain rfl := h
  exact rfl
theorem rinv_Int {w : World} {x : Int} {us : List Value} (h : Raw w (eI x) us) : us = [.int .i64 x] := by
  obtain ⟨_, rfl, h⟩ := h
  obtain rfl := h
  exact rfl
theorem rinv_Bool {w : World} {x : Bool} {us : List Value} (h : Raw w (eB x) us) : us = [.bool x] := by
  obtain ⟨_, rfl, h⟩ := h
  obtain rfl := h
  exact rfl
theorem rinv_String {w : World} {x : ByteArray} {us : List Value} (h : Raw w (eS x) us) : us = [.string x] := by
  obtain ⟨_, rfl, h⟩ := h
  obtain rfl := h
  exact rfl
theorem cntb_Fraction (x : GFraction) : (eFraction x).cnt ≤ 2 + 16 * (eFraction x).sz := by
  rw [cnt_Fraction, sz_Fraction]
  have h0 : (eI x.Num).cnt ≤ 1 + 16 * (eI x.Num).sz := by show 1 ≤ _; omega
  have h1 : (eI x.Den).cnt ≤ 1 + 16 * (eI x.Den).sz := by show 1 ≤ _; omega
  omega
end Tr
end Go.Proofs.Ytmjfcncfhgdhaaa

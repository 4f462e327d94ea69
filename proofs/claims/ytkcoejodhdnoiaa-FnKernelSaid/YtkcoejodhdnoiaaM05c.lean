/- Physical frames: what the laws say of them. No program. -/
import Derived.Test.YtkcoejodhdnoiaaM05b
import Derived.Test.YtkcoejodhdnoiaaEnc
import Derived.Test.YtkcoejodhdnoiaaTreeOps
namespace Go.Proofs.Ytkcoejodhdnoiaa
open Go.RowKit
set_option linter.unusedVariables false
namespace Tr
theorem freeAt_yes : ∀ (k : Nat) (l : List Bool), 0 ≤ freeAt k l → ∃ i, freeAt k l = ((k + i : Nat) : Int) ∧ l[i]? = some false ∧ ∀ u ∈ l.take i, u = true
  | k, [], h => by simp [freeAt] at h
  | k, u :: l, h => by
    unfold freeAt at h ⊢
    cases u with
    | true =>
      simp only [if_true] at h ⊢
      obtain ⟨i, h1, h2, h3⟩ := freeAt_yes (k + 1) l h
      refine ⟨i + 1, by rw [h1]; congr 1; omega, by simpa using h2, fun u hu => ?_⟩
      rw [List.take_succ_cons, List.mem_cons] at hu
      rcases hu with rfl | hu
      · rfl
      · exact h3 u hu
    | false => exact ⟨0, by simp, rfl, by simp⟩
theorem freeAt_no : ∀ (k : Nat) (l : List Bool), ¬ 0 ≤ freeAt k l → freeAt k l = -1 ∧ ∀ u ∈ l, u = true
  | k, [], _ => ⟨rfl, by simp⟩
  | k, u :: l, h => by
    unfold freeAt at h ⊢
    cases u with
    | true =>
      simp only [if_true] at h ⊢
      obtain ⟨h1, h2⟩ := freeAt_no (k + 1) l h
      refine ⟨h1, fun u hu => ?_⟩
      rw [List.mem_cons] at hu
      rcases hu with rfl | hu
      · rfl
      · exact h2 u hu
    | false => simp only [Bool.false_eq_true, if_false] at h; omega
theorem count_all {l : List Bool} (h : ∀ u ∈ l, u = true) : l.countP (fun u => u) = l.length := List.countP_eq_length.2 h
theorem count_set : ∀ {l : List Bool} {i : Nat}, l[i]? = some false → (l.set i true).countP (fun u => u) = l.countP (fun u => u) + 1
  | [], i, h => by simp at h
  | u :: l, 0, h => by
    have : u = false := by simpa using h
    subst this
    simp
  | u :: l, i + 1, h => by
    have h' : l[i]? = some false := by simpa using h
    have ih := count_set h'
    simp only [List.set_cons_succ, List.countP_cons, ih]
    omega
theorem okRow_mono {u : Bool} {r : List Int} (h : okRow u r) : okRow true r := ⟨h.1, fun v hv => ⟨(h.2 v hv).1, .inl rfl⟩⟩
theorem okRow_none {r : List Int} (h : okRow false r) : r = List.replicate 16 0 := by
  refine List.eq_replicate_iff.2 ⟨h.1, fun v hv => ?_⟩
  rcases (h.2 v hv).2 with h2 | h2
  · cases h2
  · exact h2
/-- frames of which frame i is taken -/
structure Taken (f : GFrames) (i : Nat) : Prop where
  ok : okF f
  free : f.Used[i]? = some false
def took (f : GFrames) (i : Nat) : GFrames := ⟨f.Cells, f.Used.set i true⟩
def wrote (f : GFrames) (i : Nat) (k v : Int) : GFrames := ⟨f.Cells.set i ((List.replicate 16 0).set k.toNat v), f.Used.set i true⟩
theorem take_cases {f : GFrames} (h : okF f) : (pFrameTake f = (f, -1, false) ∧ pFree f = -1 ∧ (∀ u ∈ f.Used, u = true)) ∨ ∃ i, Taken f i ∧ pFrameTake f = (took f i, (i : Int), true) ∧ (∀ u ∈ f.Used.take i, u = true) := by
  by_cases h0 : 0 ≤ pFree f
  · obtain ⟨i, h1, h2, h3⟩ := freeAt_yes 0 f.Used h0
    have h1' : pFree f = (i : Int) := by rw [Nat.zero_add] at h1; exact h1
    refine .inr ⟨i, ⟨h, h2⟩, ?_, h3⟩
    unfold pFrameTake
    rw [if_pos ⟨h, h0⟩, h1', Int.toNat_natCast]
    rfl
  · obtain ⟨h1, h2⟩ := freeAt_no 0 f.Used h0
    refine .inl ⟨?_, h1, h2⟩
    unfold pFrameTake
    rw [if_neg (fun hh => h0 hh.2)]
section
variable {f : GFrames} {i : Nat} (t : Taken f i)
include t
theorem Taken.lt : i < f.Used.length := (List.getElem?_eq_some_iff.1 t.free).1
theorem Taken.ltc : i < f.Cells.length := by have := t.lt; have := t.ok.2.1; omega
theorem Taken.row : f.Cells[i]? = some (List.replicate 16 0) := by
  have hl := t.ltc
  have hr := List.getElem?_eq_getElem hl
  have h1 := (okF_at.1 t.ok).2.2 i _ false hr t.free
  rw [hr, okRow_none h1]
theorem Taken.ok1 : okF (took f i) := by
  have h := okF_at.1 t.ok
  refine okF_at.2 ⟨h.1, by show (f.Used.set i true).length = _; rw [List.length_set]; exact h.2.1, fun j r u hr hu => ?_⟩
  by_cases hj : i = j
  · subst hj
    have hu' : (f.Used.set i true)[i]? = some u := hu
    rw [List.getElem?_set_self t.lt] at hu'
    obtain rfl := Option.some.inj hu'
    exact okRow_mono (h.2.2 i r false hr t.free)
  · have hu' : (f.Used.set i true)[j]? = some u := hu
    rw [List.getElem?_set_ne hj] at hu'
    exact h.2.2 j r u hr hu'
theorem Taken.used : isUsed (took f i) (i : Int) := by
  refine ⟨t.ok1, ⟨by omega, ?_⟩, ?_⟩
  · show (i : Int) < ((f.Used.set i true).length : Int)
    rw [List.length_set]; have := t.lt; omega
  · show (f.Used.set i true)[(i : Int).toNat]? = some true
    rw [Int.toNat_natCast, List.getElem?_set_self t.lt]
theorem Taken.read {k : Int} (h0 : 0 ≤ k) (h1 : k ≤ 15) : pFrameRead (took f i) (i : Int) k = (0, true) := by
  unfold pFrameRead
  have e1 : (took f i).Cells.getD i [] = List.replicate 16 0 := by
    show f.Cells.getD i [] = _
    rw [List.getD_eq_getElem?_getD, t.row]; rfl
  rw [if_pos ⟨t.used, h0, h1⟩, Int.toNat_natCast, e1, List.getD_eq_getElem?_getD, List.getElem?_replicate, if_pos (by omega)]
  rfl
theorem Taken.give : pFrameGive (took f i) (i : Int) = (f, true) := by
  unfold pFrameGive
  rw [if_pos t.used, Int.toNat_natCast]
  have e1 : f.Cells.set i (List.replicate 16 0) = f.Cells := by
    apply List.ext_getElem?
    intro j
    by_cases hj : i = j
    · subst hj; rw [List.getElem?_set_self t.ltc, t.row]
    · rw [List.getElem?_set_ne hj]
  have e2 : (f.Used.set i true).set i false = f.Used := by
    rw [List.set_set]
    apply List.ext_getElem?
    intro j
    by_cases hj : i = j
    · subst hj; rw [List.getElem?_set_self t.lt, t.free]
    · rw [List.getElem?_set_ne hj]
  show ((⟨f.Cells.set i (List.replicate 16 0), (f.Used.set i true).set i false⟩ : GFrames), true) = _
  rw [e1, e2]
theorem Taken.write {k v : Int} (h0 : 0 ≤ k) (h1 : k ≤ 15) (h2 : 0 ≤ v) (h3 : v ≤ 999) : pFrameWrite (took f i) (i : Int) k v = (wrote f i k v, true) := by
  unfold pFrameWrite
  have e1 : (took f i).Cells.getD i [] = List.replicate 16 0 := by
    show f.Cells.getD i [] = _
    rw [List.getD_eq_getElem?_getD, t.row]; rfl
  rw [if_pos ⟨t.used, ⟨h0, h1⟩, h2, h3⟩, Int.toNat_natCast, e1]
  rfl
theorem Taken.ok2 {k v : Int} (h2 : 0 ≤ v) (h3 : v ≤ 999) : okF (wrote f i k v) := by
  have hu : (took f i).Used[i]? = some true := by have := t.used.2.2; rwa [Int.toNat_natCast] at this
  exact ok_cell t.ok1 hu t.row h2 h3
theorem Taken.used2 {k v : Int} (h2 : 0 ≤ v) (h3 : v ≤ 999) : isUsed (wrote f i k v) (i : Int) := ⟨t.ok2 h2 h3, t.used.2.1, t.used.2.2⟩
theorem Taken.read2 {k v j : Int} (hk0 : 0 ≤ k) (hk1 : k ≤ 15) (h2 : 0 ≤ v) (h3 : v ≤ 999) (h0 : 0 ≤ j) (h1 : j ≤ 15) : pFrameRead (wrote f i k v) (i : Int) j = (if j = k then v else 0, true) := by
  unfold pFrameRead
  have e1 : (wrote f i k v).Cells.getD i [] = (List.replicate 16 0).set k.toNat v := by
    show (f.Cells.set i _).getD i [] = _
    rw [List.getD_eq_getElem?_getD, List.getElem?_set_self t.ltc]; rfl
  rw [if_pos ⟨t.used2 h2 h3, h0, h1⟩, Int.toNat_natCast, e1, List.getD_eq_getElem?_getD]
  by_cases hj : j = k
  · rw [if_pos hj, hj, List.getElem?_set_self (by simp; omega)]; rfl
  · rw [if_neg hj, List.getElem?_set_ne (by omega), List.getElem?_replicate, if_pos (by omega)]; rfl
theorem Taken.count : pUsedFrames (took f i) = pUsedFrames f + 1 := by
  unfold pUsedFrames
  rw [if_pos t.ok1, if_pos t.ok]
  have := count_set t.free
  show (((f.Used.set i true).countP (fun u => u) : Nat) : Int) = _
  rw [this]; omega
end
theorem used_le (f : GFrames) : 0 ≤ pUsedFrames f ∧ pUsedFrames f ≤ f.Used.length := by
  unfold pUsedFrames
  split
  · have := List.countP_le_length (p := fun u => u) (l := f.Used); omega
  · omega
theorem used_all {f : GFrames} (h : okF f) (ha : ∀ u ∈ f.Used, u = true) : pUsedFrames f = f.Used.length := by
  unfold pUsedFrames
  rw [if_pos h, count_all ha]
theorem szs_const {l : List D} {n : Nat} (h : ∀ d ∈ l, d.sz = n) : szs l = l.length * n := by
  induction l with
  | nil => simp [szs]
  | cons d l ih =>
    show d.sz + szs l = _
    rw [h d (by simp), ih (fun x hx => h x (by simp [hx])), List.length_cons, Nat.succ_mul]; omega
theorem ok_sz {f : GFrames} (h : okF f) : (eFrames f).sz ≤ 1000 := by
  obtain ⟨⟨h1, h2⟩, h3, h4⟩ := okF_at.1 h
  rw [sz_Frames]
  have e1 : (eBoolS f.Used).sz = f.Used.length := by unfold eBoolS; rw [rowD_sz, szs_zero (fun _ => rfl)]; rfl
  have e2 : (eIntSS f.Cells).sz = f.Cells.length + f.Cells.length * 16 := by
    unfold eIntSS
    rw [rowD_sz, szs_const (n := 16), List.length_map]
    intro d hd
    rw [List.mem_map] at hd
    obtain ⟨r, hr, rfl⟩ := hd
    obtain ⟨i, hi⟩ := List.mem_iff_getElem?.1 hr
    have hil : i < f.Used.length := by rw [h3]; exact (List.getElem?_eq_some_iff.1 hi).1
    have := (h4 i r _ hi (List.getElem?_eq_getElem hil)).1
    unfold eIntS
    rw [rowD_sz, szs_zero (fun _ => rfl), this]
  rw [e1, e2]; omega
end Tr
end Go.Proofs.Ytkcoejodhdnoiaa

/- The machine: what the drawn machines keep. No program. -/
import Derived.Test.YtkcoejodhdnoiaaM07
import Derived.Test.YtkcoejodhdnoiaaM05c
namespace Go.Proofs.Ytkcoejodhdnoiaa
open Go.RowKit
set_option linter.unusedVariables false
namespace Tr
theorem ok_true {f : GFrames} (h : okF f) (i : Nat) : okF ⟨f.Cells, f.Used.set i true⟩ := by
  have h := okF_at.1 h
  refine okF_at.2 ⟨h.1, by show (f.Used.set i true).length = _; rw [List.length_set]; exact h.2.1, fun j r u hr hu => ?_⟩
  by_cases hj : i = j
  · subst hj
    have hu' : (f.Used.set i true)[i]? = some u := hu
    have hl : i < f.Used.length := by
      have hr' : f.Cells[i]? = some r := hr
      have := (List.getElem?_eq_some_iff.1 hr').1
      have h2 := h.2.1
      omega
    rw [List.getElem?_set_self hl] at hu'
    obtain rfl := Option.some.inj hu'
    exact okRow_mono (h.2.2 i r _ hr (List.getElem?_eq_getElem hl))
  · have hu' : (f.Used.set i true)[j]? = some u := hu
    rw [List.getElem?_set_ne hj] at hu'
    exact h.2.2 j r u hr hu'
/-- the used frames are those to which the first i entries are mapped -/
def usedTo (t : GTable) (us : List Bool) (i : Nat) : Prop := ∀ j, j < us.length → us[j]? = some (decide (0 < (onFrame (j : Int) 0 (t.Entries.take i)).length))
theorem usedTo_zero (t : GTable) (n : Nat) : usedTo t (List.replicate n false) 0 := by
  intro j hj
  rw [List.length_replicate] at hj
  rw [List.getElem?_replicate, if_pos hj, List.take_zero]
  simp [onFrame]
theorem usedTo_skip {t : GTable} {us : List Bool} {i : Nat} {e : GEntry} (h : usedTo t us i) (he : t.Entries[i]? = some e) (hm : e.Mode = 0) : usedTo t us (i + 1) := by
  intro j hj
  rw [onFrame_take _ _ _ _ he, if_neg (fun hh => hh.1 hm), List.append_nil]
  exact h j hj
theorem usedTo_set {t : GTable} {us : List Bool} {i f : Nat} {e : GEntry} (h : usedTo t us i) (he : t.Entries[i]? = some e) (hm : e.Mode ≠ 0) (hf : e.Frame = (f : Int)) (hl : f < us.length) : usedTo t (us.set f true) (i + 1) := by
  intro j hj
  rw [List.length_set] at hj
  rw [onFrame_take _ _ _ _ he]
  by_cases hjf : f = j
  · subst hjf
    rw [List.getElem?_set_self hl, if_pos ⟨hm, hf⟩, List.length_append]
    simp
  · rw [List.getElem?_set_ne hjf, if_neg (fun hh => hjf (by have := hh.2; omega)), List.append_nil]
    exact h j hj
theorem okM_end {t : GTable} {f : GFrames} (hf : okF f) (ht : ∀ e ∈ t.Entries, okE (f.Cells.length : Int) e) (h1 : 1 ≤ t.Entries.length) (h2 : t.Entries.length ≤ 8) (hu : usedTo t f.Used t.Entries.length) : okM ⟨f, t⟩ := by
  refine ⟨hf, ?_, fun j hj => ?_⟩
  · show pTableOk t (f.Cells.length : Int) = true
    unfold pTableOk
    rw [decide_eq_true_iff]
    exact ⟨ht, h1, by omega⟩
  · have := hu j hj
    rw [List.take_length] at this
    exact this
theorem okM_sz {m : GMachine} (h : okM m) : (eMachine m).sz ≤ 2000 := by
  have h1 := ok_sz h.1
  have h2 := h.2.1
  unfold pTableOk at h2
  rw [decide_eq_true_iff] at h2
  rw [sz_Machine]
  have h3 : (eTable m.Table).sz = m.Table.Entries.length := by
    show (rowD _ _ eEntry m.Table.Entries).sz = _
    rw [rowD_sz, szs_zero (fun _ => rfl)]; rfl
  omega
/-- a page and its text -/
theorem entry_at (m : GMachine) (page k : Nat) (hk : k < 16) : pEntry m (16 * (page : Int) + (k : Int)) = (pPageEntry m.Table (page : Int), (k : Int)) := by
  unfold pEntry
  rw [if_neg (by omega), show (16 * (page : Int) + (k : Int)) / 16 = (page : Int) by omega, show (16 * (page : Int) + (k : Int)) % 16 = (k : Int) by omega]
theorem page_cases {m : GMachine} (hok : okM m) (page k : Nat) (hk : k < 16) :
    (∃ r : List Int, r.length = 16 ∧ pPageText m (page : Int) = r ∧ pLoad m (16 * (page : Int) + (k : Int)) = (r.getD k 0, 0)) ∨
    ((pPageEntry m.Table (page : Int)).Mode = 0 ∧ pPageText m (page : Int) = [] ∧ pLoad m (16 * (page : Int) + (k : Int)) = (0, 1)) := by
  have he := entry_at m page k hk
  by_cases hm : (pPageEntry m.Table (page : Int)).Mode = 0
  · refine .inr ⟨hm, ?_, ?_⟩
    · unfold pPageText; rw [if_neg (fun h => h.2 hm)]
    · unfold pLoad; rw [if_neg (fun h => by have := h.2; rw [he] at this; exact this hm)]
  · obtain ⟨f, hf, hl, hu, hr, hrow⟩ := okM_entry hok hm
    refine .inl ⟨_, hr, ?_, ?_⟩
    · unfold pPageText; rw [if_pos ⟨hok, hm⟩, hf, Int.toNat_natCast]
    · unfold pLoad; rw [if_pos ⟨hok, by rw [he]; exact hm⟩, he]
      show (cellOf m (pPageEntry m.Table (page : Int)).Frame (k : Int), (0 : Int)) = _
      unfold cellOf
      rw [hf, Int.toNat_natCast, Int.toNat_natCast]
theorem onFrame_pos (f : Int) : ∀ (k : Nat) (l : List GEntry) (i : Nat) (e : GEntry), l[i]? = some e → e.Mode ≠ 0 → e.Frame = f → 0 < (onFrame f k l).length
  | _, [], _, _, h, _, _ => by simp at h
  | k, x :: l, 0, e, h, hm, hf => by
    obtain rfl : x = e := by simpa using h
    show 0 < (_ ++ onFrame f (k + 1) l).length
    rw [if_pos ⟨hm, hf⟩, List.length_append]
    simp; omega
  | k, x :: l, i + 1, e, h, hm, hf => by
    show 0 < (_ ++ onFrame f (k + 1) l).length
    rw [List.length_append]
    have := onFrame_pos f (k + 1) l i e (by simpa using h) hm hf
    omega
/-- a mapped page's frame is used -/
theorem okM_used {m : GMachine} (h : okM m) {page : Int} (hm : (pPageEntry m.Table page).Mode ≠ 0) {f : Nat} (hf : (pPageEntry m.Table page).Frame = (f : Int)) (hu : f < m.Frames.Used.length) : m.Frames.Used[f]? = some true := by
  rw [h.2.2 f hu]
  congr 1
  rw [decide_eq_true_iff]
  by_cases hp : 0 ≤ page ∧ page < m.Table.Entries.length
  · have he : m.Table.Entries[page.toNat]? = some (pPageEntry m.Table page) := by
      unfold pPageEntry
      rw [if_pos hp, List.getD_eq_getElem?_getD, List.getElem?_eq_getElem (by omega)]; rfl
    exact onFrame_pos _ 0 _ _ _ he hm hf
  · unfold pPageEntry at hm
    rw [if_neg hp] at hm
    exact absurd rfl hm
theorem cellOf_set {m : GMachine} {f k f2 k2 : Nat} {v : Int} {r : List Int} (hr : m.Frames.Cells[f]? = some r) (hk : k < r.length) : cellOf (setCellOf m (f : Int) (k : Int) v) (f2 : Int) (k2 : Int) = if f2 = f ∧ k2 = k then v else cellOf m (f2 : Int) (k2 : Int) := by
  have hl : f < m.Frames.Cells.length := (List.getElem?_eq_some_iff.1 hr).1
  have hrr : m.Frames.Cells.getD f [] = r := by rw [List.getD_eq_getElem?_getD, hr]; rfl
  unfold cellOf setCellOf
  simp only [Int.toNat_natCast]
  rw [hrr]
  by_cases hf : f2 = f
  · subst hf
    rw [List.getD_eq_getElem?_getD (l := m.Frames.Cells.set f2 (r.set k v)), List.getElem?_set_self hl]
    show (r.set k v).getD k2 0 = _
    by_cases hkk : k2 = k
    · subst hkk
      rw [if_pos ⟨rfl, rfl⟩, List.getD_eq_getElem?_getD, List.getElem?_set_self hk]; rfl
    · rw [if_neg (fun h => hkk h.2), List.getD_eq_getElem?_getD, List.getElem?_set_ne (fun h => hkk h.symm), hrr, ← List.getD_eq_getElem?_getD]
  · rw [if_neg (fun h => hf h.1), List.getD_eq_getElem?_getD (l := m.Frames.Cells.set f (r.set k v)), List.getElem?_set_ne (fun h => hf h.symm), ← List.getD_eq_getElem?_getD]
/-- what a store leaves to every load -/
theorem store_load {m : GMachine} (hok : okM m) {addr other v : Int} (h2 : (pEntry m addr).1.Mode = 2) (hv0 : 0 ≤ v) (hv1 : v ≤ 999) :
    ∃ x, pStore m addr v = (x, 0) ∧ okM x ∧ pLoad x addr = (v, 0) ∧ (pLoad x other).2 = (pLoad m other).2 ∧
      ((pEntry m other).1.Mode ≠ 0 ∧ (pEntry m other).1.Frame = (pEntry m addr).1.Frame ∧ (pEntry m other).2 = (pEntry m addr).2 → (pLoad x other).1 = v) ∧
      (¬ ((pEntry m other).1.Mode ≠ 0 ∧ (pEntry m other).1.Frame = (pEntry m addr).1.Frame ∧ (pEntry m other).2 = (pEntry m addr).2) → (pLoad x other).1 = (pLoad m other).1) := by
  have hc : canLoad m addr := ⟨hok, by rw [h2]; decide⟩
  obtain ⟨ha, f, k, r, hf, hk, hk16, hfl, hfu, hr, hr16⟩ := load_at hc
  have hpe : (pEntry m addr).1 = pPageEntry m.Table (addr / 16) := by unfold pEntry; rw [if_neg (by omega)]
  have hu : m.Frames.Used[f]? = some true := okM_used hok (page := addr / 16) (by rw [← hpe, h2]; decide) (by rw [← hpe]; exact hf) hfu
  have hx : setCellOf m (f : Int) (k : Int) v = ⟨⟨m.Frames.Cells.set f (r.set k v), m.Frames.Used⟩, m.Table⟩ := by
    unfold setCellOf
    rw [Int.toNat_natCast, Int.toNat_natCast, List.getD_eq_getElem?_getD (l := m.Frames.Cells), hr]; rfl
  have hokx : okM (setCellOf m (f : Int) (k : Int) v) := by
    rw [hx]
    refine ⟨ok_cell hok.1 hu hr hv0 hv1, ?_, hok.2.2⟩
    show pTableOk m.Table ((m.Frames.Cells.set f (r.set k v)).length : Int) = true
    rw [List.length_set]; exact hok.2.1
  have hent : ∀ a, pEntry (setCellOf m (f : Int) (k : Int) v) a = pEntry m a := fun a => by rw [hx]; rfl
  have hcan : ∀ a, canLoad (setCellOf m (f : Int) (k : Int) v) a ↔ canLoad m a := fun a => by
    unfold canLoad
    rw [hent a]
    exact ⟨fun h => ⟨hok, h.2⟩, fun h => ⟨hokx, h.2⟩⟩
  refine ⟨setCellOf m (f : Int) (k : Int) v, ?_, hokx, ?_, ?_, fun hs => ?_, fun hs => ?_⟩
  · unfold pStore
    rw [if_pos hc, if_neg (by rw [h2]; decide), if_pos ⟨hv0, hv1⟩, hf, hk]
  · unfold pLoad
    rw [if_pos ((hcan addr).2 hc), hent, hf, hk, cellOf_set hr (by omega), if_pos ⟨rfl, rfl⟩]
  · unfold pLoad
    by_cases ho : canLoad m other
    · rw [if_pos ho, if_pos ((hcan other).2 ho)]
    · rw [if_neg ho, if_neg (fun h => ho ((hcan other).1 h))]
  · have ho : canLoad m other := ⟨hok, hs.1⟩
    unfold pLoad
    rw [if_pos ((hcan other).2 ho), hent, hs.2.1, hs.2.2, hf, hk, cellOf_set hr (by omega), if_pos ⟨rfl, rfl⟩]
  · unfold pLoad
    by_cases ho : canLoad m other
    · obtain ⟨_, f2, k2, _, hf2, hk2, _⟩ := load_at ho
      rw [if_pos ho, if_pos ((hcan other).2 ho), hent, hf2, hk2, cellOf_set hr (by omega), if_neg]
      rintro ⟨rfl, rfl⟩
      exact hs ⟨ho.2, by rw [hf2, hf], by rw [hk2, hk]⟩
    · rw [if_neg ho, if_neg (fun h => ho ((hcan other).1 h))]
/-- what a store answers where the page cannot be written -/
theorem store_no {m : GMachine} (hok : okM m) {addr v : Int} (h2 : (pEntry m addr).1.Mode ≠ 2) : ((pEntry m addr).1.Mode = 0 ∧ (pStore m addr v).2 = 1) ∨ ((pEntry m addr).1.Mode = 1 ∧ (pStore m addr v).2 = 2) := by
  by_cases h0 : (pEntry m addr).1.Mode = 0
  · refine .inl ⟨h0, ?_⟩
    unfold pStore
    rw [if_neg (fun h => h.2 h0)]
  · have hpe : ¬ addr < 0 := fun h => by unfold pEntry at h0; rw [if_pos h] at h0; exact h0 rfl
    have hp : (pEntry m addr).1 = pPageEntry m.Table (addr / 16) := by unfold pEntry; rw [if_neg hpe]
    have h1 : (pEntry m addr).1.Mode = 1 := by
      have hT := hok.2.1
      unfold pTableOk at hT
      rw [decide_eq_true_iff] at hT
      rw [hp] at h0 h2 ⊢
      by_cases hr : 0 ≤ addr / 16 ∧ addr / 16 < m.Table.Entries.length
      · have he : pPageEntry m.Table (addr / 16) ∈ m.Table.Entries := by
          unfold pPageEntry
          rw [if_pos hr, List.getD_eq_getElem?_getD, List.getElem?_eq_getElem (by omega)]
          exact List.getElem_mem _
        rcases hT.1 _ he with ⟨h, _⟩ | ⟨h | h, _⟩
        · exact absurd h h0
        · exact h
        · exact absurd h h2
      · unfold pPageEntry at h0
        rw [if_neg hr] at h0
        exact absurd rfl h0
    refine .inr ⟨h1, ?_⟩
    unfold pStore
    rw [if_pos ⟨hok, h0⟩, if_pos h1]
theorem entry_nat (m : GMachine) (a : Nat) : pEntry m (a : Int) = (pPageEntry m.Table ((a : Int) / 16), (a : Int) % 16) := by
  unfold pEntry; rw [if_neg (by omega)]
end Tr
end Go.Proofs.Ytkcoejodhdnoiaa

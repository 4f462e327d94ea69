/- Lemmas for the proofs, part 5 of 7: a symbolic run of the program, and what it needs. -/
import Derived.RowKit
import Derived.IntWalk
import Derived.Conc.PipeWords
import Derived.Conc.Quits
import Derived.WalkKit
import Derived.LaidEql
import Derived.Stop.Asserts
import Derived.RowKitTokens
import Derived.Test.YtfiofmaknndpcaaGreatDoorV4
set_option linter.unusedVariables false
set_option linter.unusedSimpArgs false
set_option maxRecDepth 100000
namespace Go.Proofs.YtfiofmaknndpcaaGreatDoor
open Go.RowKit
namespace Eng
open Tr
theorem qo5 {m : GMachine} (h : okM m) (addr v : Int) : okM (qaa m addr v).1 := by
 unfold qaa
 split
 ·rename_i hC
  split
  ·exact h
  ·split
   ·rename_i h1 hv
    obtain ⟨ha, f, k, r, hf, hk, k1, k2, k3, k4, k5⟩ := qmo hC
    have hm := hC.2
    have hf' := hf
    unfold jr at hm hf'
    rw [if_neg (by omega)] at hm hf'
    have hu : m.Frames.Used[f]? = some true := qn0 h hm hf' k3
    obtain ⟨h1, h2, h3⟩ := h
    unfold qag
    rw [hf, hk, Int.toNat_natCast, Int.toNat_natCast, qdf k4]
    have hr := h1.2.2 _ (List.mem_of_getElem? (qf7 k4 hu))
    refine ⟨qqn h1 hu ⟨by rw [List.length_set]; exact hr.1, fun x hx => ?_⟩, ?_, h3⟩
    ·rcases List.mem_or_eq_of_mem_set hx with hx | hx
     ·exact hr.2 x hx
     ·rw [hx]; exact ⟨hv, .inl rfl⟩
    ·show qbw m.Table (((m.Frames.Cells.set f _).length : Nat) : Int) = true
     rw [List.length_set]
     exact h2
   ·exact h
 ·exact h
theorem qjf (m : GMachine) (addr v : Int) : (qaa m addr v).1 = m ∨ (qaa m addr v).1 = qag m (jr m addr).1.Frame (jr m addr).2 v := by
 unfold qaa
 split
 ·split
  ·exact .inl rfl
  ·split
   ·exact .inr rfl
   ·exact .inl rfl
 ·exact .inl rfl
theorem qv2 {bs : List Int} {p : GPlan} {s : GMachine × Cu} (h : okM s.1) : ∀ i, okM (ptS bs p s i).1
 | 0 => h
 | i + 1 => by
  have ih := qv2 h (bs := bs) (p := p) i
  show okM (putS bs p (ptS bs p s i) i).1
  unfold putS
  split
  ·split
   ·exact ih
   ·exact qo5 ih _ _
  ·exact ih
theorem qxk {p : GPlan} (h : plOk p) {c : Int} (hc : c ∈ p.Cells) : 0 <= c := by
 obtain ⟨i, hi, rfl⟩ := List.mem_iff_getElem.1 hc
 have := qf8 h.2.2.2 hi
 rw [List.getD_eq_getElem?_getD, List.getElem?_eq_getElem hi] at this
 exact this.1
theorem qsb {bs : List Int} {p : GPlan} {s : GMachine × Cu} {f g : Nat} (hp : plOk p) (hne : f ≠ g) (hK : qh s.1.Table p.Keep = ⟨2, (f : Int)⟩) (hM : qh s.1.Table p.Move = ⟨2, (g : Int)⟩)
  (hz : ∃ rf rg, s.1.Frames.Cells[f]? = some rf /\ s.1.Frames.Cells[g]? = some rg /\ ∀ c ∈ p.Cells, rf.getD c.toNat 0 = 0) : ∀ i, i <= 16 →
   (ptS bs p s i).1.Table = s.1.Table /\ ∃ rf rg, (ptS bs p s i).1.Frames.Cells[f]? = some rf /\ (ptS bs p s i).1.Frames.Cells[g]? = some rg /\ ∀ c ∈ p.Cells, rf.getD c.toNat 0 = 0
 | 0, _ => ⟨rfl, hz⟩
 | i + 1, hi => by
  obtain ⟨ih1, rf, rg, ih2, ih3, ih4⟩ := qsb (bs := bs) hp hne hK hM hz i (by omega)
  show (putS bs p (ptS bs p s i) i).1.Table = _ /\ ∃ rf rg, (putS bs p (ptS bs p s i) i).1.Frames.Cells[f]? = some rf /\ (putS bs p (ptS bs p s i) i).1.Frames.Cells[g]? = some rg /\ _
  unfold putS
  split
  ·split
   ·exact ⟨ih1, rf, rg, ih2, ih3, ih4⟩
   ·generalize (ptS bs p s i).1 = m at *
    generalize hv : 1 + (xg bs (xg bs (ptS bs p s i).2 3).2 999).1 = v
    dsimp only
    have hpg : 0 <= pgS p i := by unfold pgS; have := hp.2.1; have := hp.2.2.1; split <;> omega
    have hen : jr m (pgS p i * 16 + (i : Int)) = (qh m.Table (pgS p i), (i : Int)) := by
     unfold jr
     rw [if_neg (by omega), show (pgS p i * 16 + (i : Int)) / 16 = pgS p i by omega, show (pgS p i * 16 + (i : Int)) % 16 = (i : Int) by omega]
    rcases qjf m (pgS p i * 16 + (i : Int)) v with h | h
    ·rw [h]; exact ⟨ih1, rf, rg, ih2, ih3, ih4⟩
    ·rw [h, hen]
     dsimp only
     rw [ih1]
     unfold pgS qag
     by_cases hx : (i : Int) ∈ p.Cells
     ·rw [if_pos hx, hM]
      dsimp only
      rw [Int.toNat_natCast, Int.toNat_natCast]
      refine ⟨ih1, rf, _, ?_, List.getElem?_set_self (List.getElem?_eq_some_iff.1 ih3).1, ih4⟩
      rw [List.getElem?_set_ne (Ne.symm hne)]
      exact ih2
     ·rw [if_neg hx, hK]
      dsimp only
      rw [Int.toNat_natCast, Int.toNat_natCast]
      refine ⟨ih1, _, rg, List.getElem?_set_self (List.getElem?_eq_some_iff.1 ih2).1, ?_, fun c hc => ?_⟩
      ·rw [List.getElem?_set_ne hne]
       exact ih3
      ·have h0 := ih4 c hc
       have hc0 := qxk hp hc
       rw [qdf ih2, List.getD_eq_getElem?_getD, List.getElem?_set_ne (by rintro rfl; exact hx (by rwa [Int.toNat_of_nonneg hc0])), ← List.getD_eq_getElem?_getD]
       exact h0
  ·exact ⟨ih1, rf, rg, ih2, ih3, ih4⟩
def nwM (m : GMachine) (page : Int) : GMachine := qa7 ⟨⟨m.Frames.Cells, m.Frames.Used.set (qec m.Frames).toNat true⟩, m.Table⟩ page.toNat ⟨2, qec m.Frames⟩
theorem qf3 (k : GKernel) (page : Int) : (pNew k page).1.Machine = nwM k.Machine page ∨ (pNew k page).1.Machine = k.Machine := by
 unfold pNew
 split
 ·exact .inl rfl
 ·exact .inr rfl
theorem q1c : ∀ a b : _root_.Fin 4, a ≠ b -> (qh (xk 4 4).1.Table ((b.val : Nat) : Int)).Mode = 0 /\ (qh (nwM (xk 4 4).1 ((a.val : Nat) : Int)).Table ((b.val : Nat) : Int)).Mode = 0 ∧
  (nwM (nwM (xk 4 4).1 ((a.val : Nat) : Int)) ((b.val : Nat) : Int)).Table.Entries[a.val]? = some ⟨2, 0⟩ /\ (nwM (nwM (xk 4 4).1 ((a.val : Nat) : Int)) ((b.val : Nat) : Int)).Table.Entries[b.val]? = some ⟨2, 1⟩ ∧
  (nwM (nwM (xk 4 4).1 ((a.val : Nat) : Int)) ((b.val : Nat) : Int)).Table.Entries.length = 4 ∧
  (∀ j : _root_.Fin 4, j ≠ b -> ((nwM (nwM (xk 4 4).1 ((a.val : Nat) : Int)) ((b.val : Nat) : Int)).Table.Entries.getD j.val ⟨0, 0⟩).Mode = 0 ∨ ((nwM (nwM (xk 4 4).1 ((a.val : Nat) : Int)) ((b.val : Nat) : Int)).Table.Entries.getD j.val ⟨0, 0⟩).Frame = 0) ∧
  (nwM (nwM (xk 4 4).1 ((a.val : Nat) : Int)) ((b.val : Nat) : Int)).Frames.Cells[0]? = some (List.replicate 16 0) /\ (nwM (nwM (xk 4 4).1 ((a.val : Nat) : Int)) ((b.val : Nat) : Int)).Frames.Cells[1]? = some (List.replicate 16 0) := by decide +kernel
theorem qxl {r : List Int} {p : GPlan} (h0 : ∀ x ∈ r, 0 <= x) (hl : r.length <= 40) : okK (pK2 r p) /\ (pK2 r p).Calls = 2 /\ sameSz (xk 4 4).1 (pK2 r p).Machine /\ (pK2 r p).Refuse = r := by
 have hkn : qaw 4 4 r = (⟨(xk 4 4).1, 0, r⟩, true) := if_pos ⟨by decide, m44.1, ⟨Int.le_refl _, (by show (0 : Int) <= 100000; decide)⟩, h0, by show r.length <= 40; omega⟩
 have hk0 : okK ⟨(xk 4 4).1, 0, r⟩ := ⟨m44.1, ⟨Int.le_refl _, (by show (0 : Int) <= 100000; decide)⟩, h0, by show r.length <= 40; omega⟩
 unfold pK2 pK0
 rw [hkn]
 dsimp only
 have z1 := qqo ⟨(xk 4 4).1, 0, r⟩ p.Keep
 have l1 := (qvt (k := ⟨(xk 4 4).1, 0, r⟩) ⟨hk0, (by show (0 : Int) < 100000; decide)⟩ p.Keep).1
 unfold qh5 at l1
 rw [if_pos ⟨hk0, (by show (0 : Int) < 100000; decide)⟩] at l1
 generalize (pNew ⟨(xk 4 4).1, 0, r⟩ p.Keep).1 = k1 at *
 obtain ⟨z1, z2, z3⟩ := z1
 have z3' : k1.Calls = 1 := z3
 have hc1 : qar k1 := ⟨l1, by omega⟩
 have y1 := qqo k1 p.Move
 have l2 := (qvt hc1 p.Move).1
 unfold qh5 at l2
 rw [if_pos hc1] at l2
 generalize (pNew k1 p.Move).1 = k2 at *
 obtain ⟨y1, y2, y3⟩ := y1
 exact ⟨l2, by omega, z1.trans y1, y2.trans z2⟩
theorem qt4 {r : List Int} {p : GPlan} (h0 : ∀ x ∈ r, 0 <= x) (hl : r.length <= 40) (hp : plOk p) (hk4 : p.Keep < 4) (hm4 : p.Move < 4)
  (hK : (qh (pK2 r p).Machine.Table p.Keep).Mode ≠ 0) (hM : (qh (pK2 r p).Machine.Table p.Move).Mode ≠ 0) : (pK2 r p).Machine = nwM (nwM (xk 4 4).1 p.Keep) p.Move := by
 have hkn : qaw 4 4 r = (⟨(xk 4 4).1, 0, r⟩, true) := if_pos ⟨by decide, m44.1, ⟨Int.le_refl _, (by show (0 : Int) <= 100000; decide)⟩, h0, by show r.length <= 40; omega⟩
 have hkp := hp.2.1
 have hmp := hp.2.2.1
 have hne := hp.1
 have t1 := q1c ⟨p.Keep.toNat, by omega⟩ ⟨p.Move.toNat, by omega⟩ (by intro h; have := congrArg _root_.Fin.val h; dsimp only at this; omega)
 have t2 := q1c ⟨p.Move.toNat, by omega⟩ ⟨p.Keep.toNat, by omega⟩ (by intro h; have := congrArg _root_.Fin.val h; dsimp only at this; omega)
 dsimp only at t1 t2
 rw [show ((p.Keep.toNat : Nat) : Int) = p.Keep by omega, show ((p.Move.toNat : Nat) : Int) = p.Move by omega] at t1 t2
 have hE : (pK2 r p) = (pNew (pNew ⟨(xk 4 4).1, 0, r⟩ p.Keep).1 p.Move).1 := by unfold pK2 pK0; rw [hkn]
 rw [hE] at hK hM ⊢
 have n1 := qf3 ⟨(xk 4 4).1, 0, r⟩ p.Keep
 generalize (pNew ⟨(xk 4 4).1, 0, r⟩ p.Keep).1 = k1 at *
 dsimp only at n1
 rcases qf3 k1 p.Move with n2 | n2 <;> rw [n2] at hK hM ⊢ <;> rcases n1 with n1 | n1 <;> rw [n1] at hK hM ⊢
 ·exact absurd t2.2.1 hK
 ·exact absurd t1.2.1 hM
 ·exact absurd t1.1 hM
theorem qf4 {bs : List Int} {c : Cu} (hc : okCu bs c) : okK (qcl bs c).1.1 /\ (qcl bs c).1.1.Calls = 2 /\ plOk (qcl bs c).1.2 /\ okCu bs (qcl bs c).2 /\ szK8 (qcl bs c).1.1 := by
 obtain ⟨f, hf⟩ : ∃ f, dRef bs c = f := ⟨_, rfl⟩
 have hrf := qfc bs 4 0 ([], c) hc (fun x hx => nomatch hx)
 rw [show rGo bs 4 0 ([], c) = f from hf] at hrf
 obtain ⟨of, f0, fl⟩ := hrf
 have fl4 : f.1.length <= 4 := Nat.le_trans fl (by simp)
 obtain ⟨q, hq⟩ : ∃ q, qc9 bs f.2 = q := ⟨_, rfl⟩
 have hpq := qh7 of
 rw [hq] at hpq
 obtain ⟨oq, hp, hk4, hm4⟩ := hpq
 unfold qcl
 rw [hf, hq]
 dsimp only
 obtain ⟨g1, g2, g3, g4⟩ := qxl (r := f.1) (p := q.1) f0 (by omega)
 have hT := qla (bs := bs) (p := q.1) (s := ((pK2 f.1 q.1).Machine, q.2)) oq 16
 refine ⟨⟨qv2 (s := ((pK2 f.1 q.1).Machine, q.2)) g1.1 16, g1.2⟩, g2, hp, hT.1, qeh (k := ⟨(xk 4 4).1, 0, f.1⟩) ⟨m44.2, by show f.1.length <= _; omega⟩ (g3.trans hT.2) g4⟩
theorem qsc {bs : List Int} {c : Cu} (hc : okCu bs c) {k : GKernel} {p : GPlan} (hk : (qcl bs c).1.1 = k) (hpp : (qcl bs c).1.2 = p) (hK : (qh k.Machine.Table p.Keep).Mode ≠ 0) (hM : (qh k.Machine.Table p.Move).Mode ≠ 0) : ∃ K M f g rf rg, Pr k p K M f g rf rg := by
 obtain ⟨g1, g2, g3, g4, g5⟩ := qf4 hc
 rw [hk] at g1 g2
 rw [hpp] at g3
 obtain ⟨f, hf⟩ : ∃ f, dRef bs c = f := ⟨_, rfl⟩
 have hrf := qfc bs 4 0 ([], c) hc (fun x hx => nomatch hx)
 rw [show rGo bs 4 0 ([], c) = f from hf] at hrf
 obtain ⟨of, f0, fl⟩ := hrf
 have fl4 : f.1.length <= 4 := Nat.le_trans fl (by simp)
 have hpq := qh7 of
 unfold qcl at hk hpp
 rw [hf] at hk hpp
 dsimp only at hk hpp
 rw [hpp] at hk hpq
 obtain ⟨oq, hp, hk4, hm4⟩ := hpq
 have hkp := hp.2.1
 have hmp := hp.2.2.1
 have hne := hp.1
 subst hk
 dsimp only at hK hM
 have hfix : ∀ i, (ptS bs p ((pK2 f.1 p).Machine, (qc9 bs f.2).2) i).1.Table = (pK2 f.1 p).Machine.Table := by
  intro i
  induction i with
  | zero => rfl
  | succ i ih =>
   show (putS bs p _ i).1.Table = _
   unfold putS
   split
   ·split
    ·exact ih
    ·dsimp only
     rcases qjf (ptS bs p ((pK2 f.1 p).Machine, (qc9 bs f.2).2) i).1 (pgS p i * 16 + (i : Int)) (1 + (xg bs (xg bs (ptS bs p ((pK2 f.1 p).Machine, (qc9 bs f.2).2) i).2 3).2 999).1) with h | h
     ·rw [h]; exact ih
     ·rw [h]; exact ih
   ·exact ih
 rw [hfix] at hK hM
 have hE := qt4 f0 (by omega) hp hk4 hm4 hK hM
 have t1 := q1c ⟨p.Keep.toNat, by omega⟩ ⟨p.Move.toNat, by omega⟩ (by intro h; have := congrArg _root_.Fin.val h; dsimp only at this; omega)
 dsimp only at t1
 rw [show ((p.Keep.toNat : Nat) : Int) = p.Keep by omega, show ((p.Move.toNat : Nat) : Int) = p.Move by omega, ← hE] at t1
 obtain ⟨_, _, t3, t4, t5, t6, t7, t8⟩ := t1
 have eK : qh (pK2 f.1 p).Machine.Table p.Keep = ⟨2, ((0 : Nat) : Int)⟩ := by
  have := qe0 t3
  rwa [show ((p.Keep.toNat : Nat) : Int) = p.Keep by omega] at this
 have eM : qh (pK2 f.1 p).Machine.Table p.Move = ⟨2, ((1 : Nat) : Int)⟩ := by
  have := qe0 t4
  rwa [show ((p.Move.toNat : Nat) : Int) = p.Move by omega] at this
 have hz0 : ∀ c ∈ p.Cells, (List.replicate 16 (0 : Int)).getD c.toNat 0 = 0 := fun c _ => by
  rw [List.getD_eq_getElem?_getD, List.getElem?_replicate]
  split <;> rfl
 obtain ⟨_, rf, rg, s2, s3, s4⟩ := qsb (bs := bs) (p := p) (s := ((pK2 f.1 p).Machine, (qc9 bs f.2).2)) (f := 0) (g := 1) hp (by decide) eK eM ⟨_, _, t7, t8, hz0⟩ 16 (Nat.le_refl _)
 refine ⟨p.Keep.toNat, p.Move.toNat, 0, 1, rf, rg, ⟨g1, hp, by omega, by omega, ?_, ?_, by decide, s2, s3, ?_, s4, by rw [g2]; decide⟩⟩
 ·dsimp only; rw [hfix]; exact t3
 ·dsimp only; rw [hfix]; exact t4
 ·intro j e h1 h2 h3
  dsimp only at h1
  rw [hfix] at h1
  have hj : j < 4 := by have := (List.getElem?_eq_some_iff.1 h1).1; omega
  by_cases hjM : j = p.Move.toNat
  ·exact hjM
  ·exfalso
   have := t6 ⟨j, hj⟩ (by intro h; exact hjM (congrArg _root_.Fin.val h))
   dsimp only at this
   rw [List.getD_eq_getElem?_getD, h1] at this
   rcases this with h | h
   ·exact h2 h
   ·have h' : e.Frame = 0 := h
    have h3' : e.Frame = 1 := h3
    omega
end Eng
end Go.Proofs.YtfiofmaknndpcaaGreatDoor
namespace Go.Proofs.YtfiofmaknndpcaaGreatDoor
open Go.RowKit
namespace Tr
def noW : GWriter := ⟨0, 0, false, 0⟩
def qfs (w : GWriter) : Bool := !w.Done && decide (0 < w.Waits)
def qkb (ws : List GWriter) : Int := ((ws.countP qfs : Nat) : Int)
end Tr
end Go.Proofs.YtfiofmaknndpcaaGreatDoor
namespace Go.Proofs.YtfiofmaknndpcaaGreatDoor
open Go.RowKit
namespace Tr
def stepW (k : GKernel) (w : GWriter) : GKernel × GWriter :=
 if w.Done = true then (k, w)
 else if (qaa k.Machine w.Addr w.Value).2 = 2 then (k, ⟨w.Addr, w.Value, w.Done, IntKind.i64.wrap (w.Waits + 1)⟩)
 else (⟨(qaa k.Machine w.Addr w.Value).1, k.Calls, k.Refuse⟩, ⟨w.Addr, w.Value, true, w.Waits⟩)
def jq (k : GKernel) (w : GWriter) : GKernel × GWriter := if okK k then stepW k w else (k, w)
structure WSt where
 k : GKernel
 j : GJob
 ws : List GWriter
def stepO (s : WSt) (o : Int) : WSt :=
 if o = -1 then ⟨(qbc s.k s.j).1, (qbc s.k s.j).2, s.ws⟩
 else if 0 <= o /\ o < (s.ws.length : Int) then ⟨(jq s.k (s.ws.getD o.toNat noW)).1, s.j, s.ws.set o.toNat (jq s.k (s.ws.getD o.toNat noW)).2⟩
 else s
def runO (s : WSt) (order : List Int) : Nat -> WSt
 | 0 => s
 | n + 1 => stepO (runO s order n) (order.getD n 0)
def qbh (k : GKernel) (j : GJob) (ws : List GWriter) (order : List Int) : WSt := if order.length <= 200 then runO ⟨k, j, ws⟩ order order.length else ⟨k, j, ws⟩
def finW (s : GKernel × List GWriter) : Nat -> GKernel × List GWriter
 | 0 => s
 | n + 1 => ((jq (finW s n).1 ((finW s n).2.getD n noW)).1, (finW s n).2.set n (jq (finW s n).1 ((finW s n).2.getD n noW)).2)
def qg5 (k : GKernel) (j : GJob) (ws : List GWriter) : WSt := ⟨(finW ((qcy k j 200).1, ws) ws.length).1, (qcy k j 200).2, (finW ((qcy k j 200).1, ws) ws.length).2⟩
end Tr
end Go.Proofs.YtfiofmaknndpcaaGreatDoor
namespace Go.Proofs.YtfiofmaknndpcaaGreatDoor
open Go.RowKit
namespace Tr
def pgW (p : GPlan) (i : Nat) : Int := if (i : Int) ∈ p.Cells then p.Move else p.Keep
theorem qv3 {p : GPlan} {i : Nat} : inP p i ↔ (i : Int) ∈ p.Cells := by
 unfold inP
 constructor
 ·rintro ⟨n, h1, h2⟩; rw [← h2]; exact qj9 h1
 ·intro h
  obtain ⟨n, hn, he⟩ := List.mem_iff_getElem.1 h
  exact ⟨n, hn, by rw [List.getD_eq_getElem?_getD, List.getElem?_eq_getElem hn]; exact he⟩
def qhe (rf rg : List Int) (p : GPlan) (j : Nat) : Int := if (j : Int) ∈ p.Cells then rg.getD j 0 else rf.getD j 0
theorem qgj {m : GMachine} (hm : okM m) {P : Nat} {e : GEntry} (he : qh m.Table (P : Int) = e) {i : Nat} (hi : i < 16) {v : Int} (hv : 0 <= v /\ v <= 999) :
  (e.Mode = 2 -> qaa m ((P : Int) * 16 + (i : Int)) v = (qag m e.Frame (i : Int) v, 0)) /\ (e.Mode = 1 -> qaa m ((P : Int) * 16 + (i : Int)) v = (m, 2)) /\ (e.Mode = 0 -> qaa m ((P : Int) * 16 + (i : Int)) v = (m, 1)) := by
 have hE := qnz m P i hi
 rw [he, show 16 * (P : Int) + (i : Int) = (P : Int) * 16 + (i : Int) by omega] at hE
 refine ⟨fun h => ?_, fun h => ?_, fun h => ?_⟩
 ·unfold qaa
  rw [if_pos ⟨hm, by rw [hE]; dsimp only; omega⟩, hE, if_neg (by dsimp only; omega), if_pos hv]
 ·unfold qaa
  rw [if_pos ⟨hm, by rw [hE]; dsimp only; omega⟩, hE, if_pos h]
 ·unfold qaa
  rw [if_neg (fun hc => by have := hc.2; rw [hE] at this; exact this h)]
theorem qlb {a b cells : List Int} (hc : asc cells) {i : Nat} {v : Int} (hi : (i : Int) ∉ cells) : ∀ n, n <= cells.length -> (mgTo a b cells n).set i v = mgTo (a.set i v) b cells n
 | 0, _ => rfl
 | n + 1, hn => by
  have ih := qlb (a := a) (b := b) (v := v) hc hi n (by omega)
  have hr := qf8 hc (i := n) (by omega)
  have hm := qj9 (l := cells) (i := n) (by omega)
  show ((mgTo a b cells n).set _ _).set i v = (mgTo (a.set i v) b cells n).set _ _
  rw [← ih, List.set_comm _ _ (by intro e; apply hi; rw [show (i : Int) = cells.getD n 0 by omega]; exact hm)]
theorem q8w {a b : List Int} (ha : a.length = 16) (hb : b.length = 16) (h : ∀ j, j < 16 -> a.getD j 0 = b.getD j 0) : a = b := by
 refine List.ext_getElem? fun j => ?_
 by_cases hj : j < 16
 ·have := h j hj
  rw [List.getD_eq_getElem?_getD, List.getD_eq_getElem?_getD, List.getElem?_eq_getElem (by omega), List.getElem?_eq_getElem (by omega)] at this
  rw [List.getElem?_eq_getElem (by omega), List.getElem?_eq_getElem (by omega)]
  exact congrArg some this
 ·rw [List.getElem?_eq_none (by omega), List.getElem?_eq_none (by omega)]
theorem qgk (l : List Int) (i j : Nat) (v : Int) (hi : i < l.length) : (l.set i v).getD j 0 = if j = i then v else l.getD j 0 := by
 rw [List.getD_eq_getElem?_getD, List.getElem?_set]
 by_cases e : i = j
 ·rw [if_pos e, if_pos e.symm, if_pos (by omega)]; rfl
 ·rw [if_neg e, if_neg (fun h => e h.symm), List.getD_eq_getElem?_getD]
theorem qxm {a b cells : List Int} (ha : a.length = 16) (hb : b.length = 16) (hc : asc cells) {i : Nat} (hi16 : i < 16) {v : Int} (hi : (i : Int) ∈ cells) : (mgTo a b cells cells.length).set i v = mgTo a (b.set i v) cells cells.length := by
 have hl := qez a b cells cells.length
 refine q8w (by rw [List.length_set, hl, ha]) (by rw [qez, ha]) fun j hj => ?_
 rw [qgk _ _ _ _ (by rw [hl, ha]; exact hi16), qij ha hc hj _ (Nat.le_refl _), qij ha hc hj _ (Nat.le_refl _), qgk _ _ _ _ (by omega)]
 by_cases e : j = i
 ·subst e
  obtain ⟨n, hn, he⟩ := List.mem_iff_getElem.1 hi
  rw [if_pos rfl, if_pos rfl, if_pos ⟨n, hn, by rw [List.getD_eq_getElem?_getD, List.getElem?_eq_getElem hn]; exact he⟩]
 ·rw [if_neg e, if_neg e]
def reM (m : GMachine) (f : Nat) (r : List Int) : GMachine := ⟨⟨m.Frames.Cells.set f r, m.Frames.Used⟩, m.Table⟩
def reK (k : GKernel) (f : Nat) (r : List Int) : GKernel := ⟨reM k.Machine f r, k.Calls, k.Refuse⟩
theorem qin {r : List Int} (h : qd5 true r) {i : Nat} {v : Int} (hv : 0 <= v /\ v <= 999) : qd5 true (r.set i v) := by
 refine ⟨by rw [List.length_set]; exact h.1, fun x hx => ?_⟩
 rcases List.mem_or_eq_of_mem_set hx with hx | hx
 ·exact h.2 x hx
 ·rw [hx]; exact ⟨hv, .inl rfl⟩
section
variable {k : GKernel} {p : GPlan} {K M f g : Nat} {rf rg : List Int}
theorem Pr.reOk (h : Pr k p K M f g rf rg) {x : Nat} (hx : k.Machine.Frames.Used[x]? = some true) {r : List Int} (hr : qd5 true r) : okK (reK k x r) := by
 obtain ⟨⟨h1, h2, h3⟩, h4⟩ := h.ok
 refine ⟨⟨qqn h1 hx hr, ?_, h3⟩, h4⟩
 show qbw k.Machine.Table (((k.Machine.Frames.Cells.set x r).length : Nat) : Int) = true
 rw [List.length_set]
 exact h2
theorem Pr.reF (h : Pr k p K M f g rf rg) {r : List Int} (hr : qd5 true r) (hz : ∀ c ∈ p.Cells, r.getD c.toNat 0 = 0) : Pr (reK k f r) p K M f g r rg :=
 ⟨h.reOk h.usedF hr, h.plan, h.eK, h.eM, h.keep, h.move, h.ne, List.getElem?_set_self h.fl, (by show (k.Machine.Frames.Cells.set f r)[g]? = _; rw [List.getElem?_set_ne h.ne]; exact h.rowG), h.onG, hz, h.calls⟩
theorem Pr.reG (h : Pr k p K M f g rf rg) {r : List Int} (hr : qd5 true r) : Pr (reK k g r) p K M f g rf r :=
 ⟨h.reOk h.usedG hr, h.plan, h.eK, h.eM, h.keep, h.move, h.ne, (by show (k.Machine.Frames.Cells.set g r)[f]? = _; rw [List.getElem?_set_ne (Ne.symm h.ne)]; exact h.rowF), List.getElem?_set_self h.gl, h.onG, h.zero, h.calls⟩
theorem Pr.setMid (h : Pr k p K M f g rf rg) {i : Nat} {v : Int} (hi : (i : Int) ∉ p.Cells) (md : Int) {n : Nat} (hn : n <= p.Cells.length) :
  qag (midM k.Machine p M f g rf rg md n) (f : Int) (i : Int) v = midM (reM k.Machine f (rf.set i v)) p M f g (rf.set i v) rg md n := by
 unfold qag
 rw [Int.toNat_natCast, Int.toNat_natCast, qdf (h.midF md n), qlb h.plan.2.2.2 hi n hn]
 unfold midM reM
 simp only [List.set_set]
theorem Pr.setBase (h : Pr k p K M f g rf rg) {x i : Nat} {r : List Int} {v : Int} (hx : k.Machine.Frames.Cells[x]? = some r) : qag k.Machine (x : Int) (i : Int) v = reM k.Machine x (r.set i v) := by
 unfold qag
 rw [Int.toNat_natCast, Int.toNat_natCast, qdf hx]
 rfl
theorem Pr.setEndF (h : Pr k p K M f g rf rg) {i : Nat} {v : Int} (hi : (i : Int) ∉ p.Cells) :
  qag (Tr.endM k.Machine p M f g rf rg) (f : Int) (i : Int) v = Tr.endM (reM k.Machine f (rf.set i v)) p M f g (rf.set i v) rg := by
 unfold qag
 rw [Int.toNat_natCast, Int.toNat_natCast, qdf h.endF, qlb h.plan.2.2.2 hi _ (Nat.le_refl _)]
 unfold Tr.endM reM
 dsimp only
 rw [List.set_comm _ _ (Ne.symm h.ne)]
 simp only [List.set_set]
theorem Pr.setEndG (h : Pr k p K M f g rf rg) {i : Nat} (hi16 : i < 16) {v : Int} (hi : (i : Int) ∈ p.Cells) :
  qag (Tr.endM k.Machine p M f g rf rg) (f : Int) (i : Int) v = Tr.endM (reM k.Machine g (rg.set i v)) p M f g rf (rg.set i v) := by
 unfold qag
 rw [Int.toNat_natCast, Int.toNat_natCast, qdf h.endF, qxm h.okRf.1 h.okRg.1 h.plan.2.2.2 hi16 hi]
 unfold Tr.endM reM
 dsimp only
 rw [List.set_comm _ _ (Ne.symm h.ne)]
 simp only [List.set_set]
 rw [List.set_comm _ _ (Ne.symm h.ne)]
 simp only [List.set_set]
theorem Pr.liveF (h : Pr k p K M f g rf rg) {i : Nat} (hi16 : i < 16) {v : Int} (hi : (i : Int) ∉ p.Cells) (j : Nat) : qhe (rf.set i v) rg p j = if j = i then v else qhe rf rg p j := by
 unfold qhe
 by_cases e : j = i
 ·subst e
  rw [if_neg hi, if_pos rfl, qgk _ _ _ _ (by rw [h.okRf.1]; exact hi16), if_pos rfl]
 ·rw [if_neg e, qgk _ _ _ _ (by rw [h.okRf.1]; exact hi16), if_neg e]
theorem Pr.liveG (h : Pr k p K M f g rf rg) {i : Nat} (hi16 : i < 16) {v : Int} (hi : (i : Int) ∈ p.Cells) (j : Nat) : qhe rf (rg.set i v) p j = if j = i then v else qhe rf rg p j := by
 unfold qhe
 by_cases e : j = i
 ·subst e
  rw [if_pos hi, if_pos rfl, qgk _ _ _ _ (by rw [h.okRg.1]; exact hi16), if_pos rfl]
 ·rw [if_neg e, qgk _ _ _ _ (by rw [h.okRg.1]; exact hi16), if_neg e]
theorem Pr.zeroSet (h : Pr k p K M f g rf rg) {i : Nat} {v : Int} (hi : (i : Int) ∉ p.Cells) : ∀ c ∈ p.Cells, (rf.set i v).getD c.toNat 0 = 0 := fun c hc => by
 have h0 := h.zero c hc
 obtain ⟨n, hn, he⟩ := List.mem_iff_getElem.1 hc
 have hr := qf8 h.plan.2.2.2 hn
 rw [List.getD_eq_getElem?_getD, List.getElem?_eq_getElem hn] at hr
 have hr' : 0 <= c := by rw [← he]; exact hr.1
 rw [List.getD_eq_getElem?_getD, List.getElem?_set_ne (by rintro rfl; exact hi (by rwa [Int.toNat_of_nonneg hr'])), ← List.getD_eq_getElem?_getD]
 exact h0
theorem At.write (h : Pr k p K M f g rf rg) {s : GKernel × GJob} (ha : At k p M f g rf rg s) {i : Nat} (hi : i < 16) {w : GWriter} (hA : w.Addr = pgW p i * 16 + (i : Int)) (hv : 0 <= w.Value /\ w.Value <= 999) (hd : w.Done = false) :
  (stepW s.1 w = (s.1, ⟨w.Addr, w.Value, false, IntKind.i64.wrap (w.Waits + 1)⟩) /\ (i : Int) ∈ p.Cells /\ 1 <= s.2.Phase /\ s.2.Phase <= 3) ∨
  ((stepW s.1 w).2 = ⟨w.Addr, w.Value, true, w.Waits⟩ /\ (stepW s.1 w).1.Calls = s.1.Calls /\ ¬ ((i : Int) ∈ p.Cells /\ 1 <= s.2.Phase /\ s.2.Phase <= 3) /\ ∃ k' rf' rg', Pr k' p K M f g rf' rg' /\ At k' p M f g rf' rg' ((stepW s.1 w).1, s.2) /\ k'.Calls = k.Calls /\ ∀ j, qhe rf' rg' p j = if j = i then w.Value else qhe rf rg p j) := by
 have hok := ha.okMach h
 have hd' : ¬ w.Done = true := by rw [hd]; decide
 have act : ∀ {m' : GMachine} {c : Int}, qaa s.1.Machine w.Addr w.Value = (m', c) -> c ≠ 2 -> stepW s.1 w = (⟨m', s.1.Calls, s.1.Refuse⟩, ⟨w.Addr, w.Value, true, w.Waits⟩) := fun e hc => by
  unfold stepW
  rw [if_neg hd', e, if_neg hc]
 have wait : ∀ {m' : GMachine}, qaa s.1.Machine w.Addr w.Value = (m', 2) -> stepW s.1 w = (s.1, ⟨w.Addr, w.Value, false, IntKind.i64.wrap (w.Waits + 1)⟩) := fun e => by
  unfold stepW
  rw [if_neg hd', e, if_pos rfl, hd]
 obtain ⟨a1, a2, a3, hs⟩ := ha
 by_cases hin : (i : Int) ∈ p.Cells
 ·have hpg : w.Addr = (M : Int) * 16 + (i : Int) := by rw [hA]; unfold pgW; rw [if_pos hin, h.eM]
  have done : ∀ {X : Nat} {r : List Int}, True -> True := fun _ => trivial
  have prot : ∀ n, n <= p.Cells.length -> s.1.Machine = midM k.Machine p M f g rf rg 1 n -> stepW s.1 w = (s.1, ⟨w.Addr, w.Value, false, IntKind.i64.wrap (w.Waits + 1)⟩) := fun n hn e => by
   have he := h.midMv 1 n
   rw [← e, h.eM] at he
   have := (qgj hok he hi hv).2.1 rfl
   rw [← hpg] at this
   exact wait this
  have base : s.1.Machine = k.Machine -> stepW s.1 w = (⟨reM k.Machine g (rg.set i w.Value), s.1.Calls, s.1.Refuse⟩, ⟨w.Addr, w.Value, true, w.Waits⟩) := fun e => by
   have he := h.modeM
   rw [h.eM] at he
   have := (qgj h.ok.1 he hi hv).1 rfl
   rw [← hpg, h.setBase h.rowG] at this
   exact act (by rw [e]; exact this) (by decide)
  rcases hs with ⟨b, c, e⟩ | ⟨n, hn, b, c, e⟩ | ⟨b, c, e⟩ | ⟨n, hn, b, c, e⟩ | ⟨b, c, e⟩ | ⟨b, c, e⟩
  ·refine .inr ?_
   rw [base e]
   exact ⟨rfl, rfl, fun hh => by omega, reK k g (rg.set i w.Value), rf, rg.set i w.Value, h.reG (qin h.okRg hv), ⟨a1, a2, a3, .inl ⟨b, c, rfl⟩⟩, rfl, h.liveG hi hin⟩
  ·exact .inl ⟨prot n hn e, hin, by omega, by omega⟩
  ·exact .inl ⟨prot _ (Nat.le_refl _) e, hin, by omega, by omega⟩
  ·exact .inl ⟨prot n hn e, hin, by omega, by omega⟩
  ·refine .inr ?_
   have he := h.endMv
   rw [← e, h.eM] at he
   have hst := (qgj hok he hi hv).1 rfl
   rw [← hpg] at hst
   dsimp only at hst
   rw [e, h.setEndG hi hin, ← e] at hst
   rw [act hst (by decide)]
   exact ⟨rfl, rfl, fun hh => by omega, reK k g (rg.set i w.Value), rf, rg.set i w.Value, h.reG (qin h.okRg hv), ⟨a1, a2, a3, .inr (.inr (.inr (.inr (.inl ⟨b, c, rfl⟩))))⟩, rfl, h.liveG hi hin⟩
  ·refine .inr ?_
   rw [base e]
   exact ⟨rfl, rfl, fun hh => by omega, reK k g (rg.set i w.Value), rf, rg.set i w.Value, h.reG (qin h.okRg hv), ⟨a1, a2, a3, .inr (.inr (.inr (.inr (.inr ⟨b, c, rfl⟩))))⟩, rfl, h.liveG hi hin⟩
 ·have hpg : w.Addr = (K : Int) * 16 + (i : Int) := by rw [hA]; unfold pgW; rw [if_neg hin, h.eK]
  have hPr := h.reF (qin h.okRf hv) (h.zeroSet hin (v := w.Value))
  have mid : ∀ n, n <= p.Cells.length -> s.1.Machine = midM k.Machine p M f g rf rg 1 n -> stepW s.1 w = (⟨midM (reM k.Machine f (rf.set i w.Value)) p M f g (rf.set i w.Value) rg 1 n, s.1.Calls, s.1.Refuse⟩, ⟨w.Addr, w.Value, true, w.Waits⟩) := fun n hn e => by
   have he := h.midK 1 n
   rw [← e, h.eK] at he
   have hst := (qgj hok he hi hv).1 rfl
   rw [← hpg] at hst
   dsimp only at hst
   rw [e, h.setMid hin 1 hn, ← e] at hst
   exact act hst (by decide)
  have base : s.1.Machine = k.Machine -> stepW s.1 w = (⟨reM k.Machine f (rf.set i w.Value), s.1.Calls, s.1.Refuse⟩, ⟨w.Addr, w.Value, true, w.Waits⟩) := fun e => by
   have he := h.modeK
   rw [h.eK] at he
   have := (qgj h.ok.1 he hi hv).1 rfl
   rw [← hpg, h.setBase h.rowF] at this
   exact act (by rw [e]; exact this) (by decide)
  refine .inr ?_
  rcases hs with ⟨b, c, e⟩ | ⟨n, hn, b, c, e⟩ | ⟨b, c, e⟩ | ⟨n, hn, b, c, e⟩ | ⟨b, c, e⟩ | ⟨b, c, e⟩
  ·rw [base e]
   exact ⟨rfl, rfl, fun hh => hin hh.1, _, _, _, hPr, ⟨a1, a2, a3, .inl ⟨b, c, rfl⟩⟩, rfl, h.liveF hi hin⟩
  ·rw [mid n hn e]
   exact ⟨rfl, rfl, fun hh => hin hh.1, _, _, _, hPr, ⟨a1, a2, a3, .inr (.inl ⟨n, hn, b, c, rfl⟩)⟩, rfl, h.liveF hi hin⟩
  ·rw [mid _ (Nat.le_refl _) e]
   exact ⟨rfl, rfl, fun hh => hin hh.1, _, _, _, hPr, ⟨a1, a2, a3, .inr (.inr (.inl ⟨b, c, rfl⟩))⟩, rfl, h.liveF hi hin⟩
  ·rw [mid n hn e]
   exact ⟨rfl, rfl, fun hh => hin hh.1, _, _, _, hPr, ⟨a1, a2, a3, .inr (.inr (.inr (.inl ⟨n, hn, b, c, rfl⟩)))⟩, rfl, h.liveF hi hin⟩
  ·have he := h.endK
   rw [← e, h.eK] at he
   have hst := (qgj hok he hi hv).1 rfl
   rw [← hpg] at hst
   dsimp only at hst
   rw [e, h.setEndF hin, ← e] at hst
   rw [act hst (by decide)]
   exact ⟨rfl, rfl, fun hh => hin hh.1, _, _, _, hPr, ⟨a1, a2, a3, .inr (.inr (.inr (.inr (.inl ⟨b, c, rfl⟩))))⟩, rfl, h.liveF hi hin⟩
  ·rw [base e]
   exact ⟨rfl, rfl, fun hh => hin hh.1, _, _, _, hPr, ⟨a1, a2, a3, .inr (.inr (.inr (.inr (.inr ⟨b, c, rfl⟩))))⟩, rfl, h.liveF hi hin⟩
theorem At.live (h : Pr k p K M f g rf rg) {s : GKernel × GJob} (ha : At k p M f g rf rg s) {i : Nat} (hi : i < 16) : qd7 s.1.Machine (pgW p i * 16 + (i : Int)) = (qhe rf rg p i, 0) := by
 obtain ⟨v1, v2⟩ := ha.visible h hi
 have kM := qf2 h.ok.1 (P := M) (e := ⟨2, (g : Int)⟩) (by rw [← h.eM]; exact h.modeM) (by dsimp only; decide) hi
 have kK := qf2 h.ok.1 (P := K) (e := ⟨2, (f : Int)⟩) (by rw [← h.eK]; exact h.modeK) (by dsimp only; decide) hi
 rw [← h.eM, qe1 h.rowG] at kM
 rw [← h.eK, qe1 h.rowF] at kK
 unfold pgW qhe
 by_cases hin : (i : Int) ∈ p.Cells
 ·rw [if_pos hin, if_pos hin, show p.Move * 16 + (i : Int) = 16 * p.Move + (i : Int) by omega, v1 (qv3.2 hin)]
  exact kM
 ·rw [if_neg hin, if_neg hin, show p.Keep * 16 + (i : Int) = 16 * p.Keep + (i : Int) by omega, v2 (fun hh => hin (qv3.1 hh))]
  exact kK
end
end Tr
end Go.Proofs.YtfiofmaknndpcaaGreatDoor
namespace Go.Proofs.YtfiofmaknndpcaaGreatDoor
open Go.RowKit
namespace Tr
structure Wr (p : GPlan) (ws : List GWriter) (cs : List Nat) : Prop where
 len : cs.length = ws.length
 lt : ∀ n, n < ws.length -> cs.getD n 0 < 16
 addr : ∀ n, n < ws.length -> (ws.getD n noW).Addr = pgW p (cs.getD n 0) * 16 + ((cs.getD n 0 : Nat) : Int)
 val : ∀ n, n < ws.length -> 0 <= (ws.getD n noW).Value /\ (ws.getD n noW).Value <= 999
 inj : ∀ n m, n < ws.length -> m < ws.length -> cs.getD n 0 = cs.getD m 0 -> n = m
def q1d (a b : GWriter) : Prop := b.Addr = a.Addr /\ b.Value = a.Value
def Iv (p : GPlan) (ws0 : List GWriter) (cs : List Nat) (K M f g : Nat) (C : Int) (T : Nat) (s : WSt) : Prop :=
 s.ws.length = ws0.length /\ (∀ n, n < ws0.length -> q1d (ws0.getD n noW) (s.ws.getD n noW)) ∧
  ∃ k rf rg, Pr k p K M f g rf rg /\ At k p M f g rf rg (s.k, s.j) /\ k.Calls <= C /\ s.k.Calls + (left (s.k, s.j) : Int) <= C + 100 /\ left (s.k, s.j) <= 100 ∧
   ∀ n, n < ws0.length -> ((s.ws.getD n noW).Done = true -> qhe rf rg p (cs.getD n 0) = (s.ws.getD n noW).Value) /\ (0 < (s.ws.getD n noW).Waits -> ((cs.getD n 0 : Nat) : Int) ∈ p.Cells) /\ 0 <= (s.ws.getD n noW).Waits /\ (s.ws.getD n noW).Waits <= (T : Int)
theorem qgl (l : List GWriter) (i j : Nat) (v : GWriter) (hi : i < l.length) : (l.set i v).getD j noW = if j = i then v else l.getD j noW := by
 rw [List.getD_eq_getElem?_getD, List.getElem?_set]
 by_cases e : i = j
 ·rw [if_pos e, if_pos e.symm, if_pos (by omega)]; rfl
 ·rw [if_neg e, if_neg (fun h => e h.symm), List.getD_eq_getElem?_getD]
section
variable {p : GPlan} {ws0 : List GWriter} {cs : List Nat} {K M f g : Nat} {C : Int}
theorem wrap_small {n : Int} (h0 : 0 <= n) (h1 : n <= 100000) : IntKind.i64.wrap n = n := IntWalk.i64_in n ⟨by omega, by omega⟩
theorem qt5 (k : GKernel) (w : GWriter) : (stepW k w).1.Calls = k.Calls /\ (stepW k w).1.Refuse = k.Refuse := by
 unfold stepW
 split
 ·exact ⟨rfl, rfl⟩
 ·split
  ·exact ⟨rfl, rfl⟩
  ·exact ⟨rfl, rfl⟩
theorem qxn {k k' : GKernel} {j : GJob} (hc : k'.Calls = k.Calls) (hr : k'.Refuse = k.Refuse) : left (k', j) = left (k, j) := by
 unfold left rest
 dsimp only
 rw [hc, hr]
theorem qkc {l : List GWriter} {n : Nat} {w : GWriter} (h : n < l.length) (hw : l.getD n noW = w) : l.set n w = l := by
 refine List.ext_getElem? fun j => ?_
 rw [List.getElem?_set]
 split
 ·rename_i e; subst e
  first
   | rw [if_pos h, ← hw, List.getD_eq_getElem?_getD, List.getElem?_eq_getElem h]; rfl
   | rw [← hw, List.getD_eq_getElem?_getD, List.getElem?_eq_getElem h]; rfl
 ·rfl
theorem Iv.writer {T : Nat} (hT : T <= 1000) (hW : Wr p ws0 cs) (hC : C <= 1000) {s : WSt} (h : Iv p ws0 cs K M f g C T s) {n : Nat} (hn : n < ws0.length) :
  Iv p ws0 cs K M f g C (T + 1) ⟨(jq s.k (s.ws.getD n noW)).1, s.j, s.ws.set n (jq s.k (s.ws.getD n noW)).2⟩ ∧
   (jq s.k (s.ws.getD n noW)).2.Done = !(!(s.ws.getD n noW).Done && decide (((cs.getD n 0 : Nat) : Int) ∈ p.Cells /\ 1 <= s.j.Phase /\ s.j.Phase <= 3)) := by
 obtain ⟨h1, h2, k, rf, rg, hP, hA, c1, c2, c3, h3⟩ := h
 have hok : okK s.k := hA.okKer hP (by dsimp only; omega)
 obtain ⟨w, hw⟩ : ∃ w, s.ws.getD n noW = w := ⟨_, rfl⟩
 rw [hw]
 have hs := h2 n hn
 have h3n := h3 n hn
 rw [hw] at hs h3n
 have up : ∀ m, m < ws0.length -> ((s.ws.getD m noW).Done = true -> qhe rf rg p (cs.getD m 0) = (s.ws.getD m noW).Value) /\ (0 < (s.ws.getD m noW).Waits -> ((cs.getD m 0 : Nat) : Int) ∈ p.Cells) /\ 0 <= (s.ws.getD m noW).Waits /\ (s.ws.getD m noW).Waits <= ((T + 1 : Nat) : Int) := fun m hm => by
  obtain ⟨x1, x2, x3, x4⟩ := h3 m hm
  exact ⟨x1, x2, x3, by omega⟩
 unfold jq
 rw [if_pos hok]
 by_cases hd : w.Done = true
 ·have hst : stepW s.k w = (s.k, w) := by unfold stepW; rw [if_pos hd]
  rw [hst]
  dsimp only
  rw [qkc (by omega) hw]
  exact ⟨⟨h1, h2, k, rf, rg, hP, hA, c1, c2, c3, up⟩, by rw [hd]; rfl⟩
 ·have hd' : w.Done = false := by cases hb : w.Done with | true => exact absurd hb hd | false => rfl
  have hAd := hW.addr n hn
  have hvl := hW.val n hn
  rw [← hs.1] at hAd
  rw [← hs.2] at hvl
  have hkeep := qt5 s.k w
  have hsame : ∀ (w' : GWriter), w'.Addr = w.Addr -> w'.Value = w.Value -> ∀ m, m < ws0.length -> q1d (ws0.getD m noW) ((s.ws.set n w').getD m noW) := fun w' q1 q2 m hm => by
   rw [qgl _ _ _ _ (by omega)]
   split
   ·rename_i e1; subst e1; exact ⟨q1.trans hs.1, q2.trans hs.2⟩
   ·exact h2 m hm
  rcases hA.write hP (hW.lt n hn) hAd hvl hd' with ⟨e, hin, p1, p2⟩ | ⟨e, e2, hno, k', rf', rg', hP', hA', c4, hl⟩
  ·dsimp only at e p1 p2
   rw [e]
   have hwr : IntKind.i64.wrap (w.Waits + 1) = w.Waits + 1 := by
    have := h3n.2.2
    exact wrap_small (by omega) (by omega)
   refine ⟨⟨by show (s.ws.set n _).length = _; rw [List.length_set]; exact h1, hsame _ rfl rfl, k, rf, rg, hP, hA, c1, c2, c3, fun m hm => ?_⟩, ?_⟩
   ·dsimp only
    rw [qgl _ _ _ _ (by omega)]
    by_cases e1 : m = n
    ·subst e1
     rw [if_pos rfl]
     dsimp only
     rw [hwr]
     have := h3n.2.2
     exact ⟨fun hh => (by cases hh), fun _ => hin, by omega, by omega⟩
    ·rw [if_neg e1]; exact up m hm
   ·dsimp only
    rw [hd', decide_eq_true ⟨hin, p1, p2⟩]; rfl
  ·dsimp only at e e2 hA' hno
   have hll := qxn (j := s.j) hkeep.1 hkeep.2
   rw [e]
   refine ⟨⟨by show (s.ws.set n _).length = _; rw [List.length_set]; exact h1, hsame _ rfl rfl, k', rf', rg', hP', hA', by omega, by dsimp only; rw [hll, hkeep.1]; exact c2, by dsimp only; rw [hll]; exact c3, fun m hm => ?_⟩, ?_⟩
   ·dsimp only
    rw [qgl _ _ _ _ (by omega), hl]
    by_cases e1 : m = n
    ·subst e1
     rw [if_pos rfl, if_pos rfl]
     have := h3n.2.2
     exact ⟨fun _ => rfl, h3n.2.1, by dsimp only; omega, by dsimp only; omega⟩
    ·rw [if_neg e1, if_neg (fun hh => e1 (hW.inj m n hm hn hh))]
     exact up m hm
   ·dsimp only
    rw [decide_eq_false hno, Bool.and_false]; rfl
theorem qxo {k : GKernel} {j : GJob} (h : qbx j) : qbc k j = (k, j) := by
 unfold qbc
 split
 ·unfold stepJ
  unfold qbx at h
  rw [if_neg (by omega), if_neg (by omega), if_neg (by omega), if_neg (by omega)]
 ·rfl
theorem Iv.more {T T' : Nat} (hT : T <= T') {s : WSt} (h : Iv p ws0 cs K M f g C T s) : Iv p ws0 cs K M f g C T' s := by
 obtain ⟨h1, h2, k, rf, rg, hP, hA, c1, c2, c3, h3⟩ := h
 exact ⟨h1, h2, k, rf, rg, hP, hA, c1, c2, c3, fun m hm => by obtain ⟨x1, x2, x3, x4⟩ := h3 m hm; exact ⟨x1, x2, x3, by omega⟩⟩
theorem Iv.job {T : Nat} (hC : C <= 1000) {s : WSt} (h : Iv p ws0 cs K M f g C T s) : Iv p ws0 cs K M f g C T ⟨(qbc s.k s.j).1, (qbc s.k s.j).2, s.ws⟩ := by
 by_cases ho : qbx s.j
 ·rw [qxo ho]; exact h
 ·obtain ⟨h1, h2, k, rf, rg, hP, hA, c1, c2, c3, h3⟩ := h
  have hm := hA.may hP (by dsimp only; omega) ho
  obtain ⟨q1, q2, q3⟩ := hA.step hP ho
  dsimp only at hm q1 q2 q3
  have q4 : left ((stepJ s.k s.j).1, (stepJ s.k s.j).2) < left (s.k, s.j) := q2
  unfold qbc
  rw [if_pos hm]
  exact ⟨h1, h2, k, rf, rg, hP, q1, c1, by dsimp only; omega, by dsimp only; omega, h3⟩
theorem Iv.stepO {T : Nat} (hT : T <= 1000) (hW : Wr p ws0 cs) (hC : C <= 1000) {s : WSt} (h : Iv p ws0 cs K M f g C T s) (o : Int) : Iv p ws0 cs K M f g C (T + 1) (Tr.stepO s o) := by
 unfold Tr.stepO
 split
 ·exact (h.job hC).more (by omega)
 ·split
  ·rename_i ho
   have hl := h.1
   exact (h.writer hT hW hC (n := o.toNat) (by omega)).1
  ·exact h.more (by omega)
theorem Iv.runO (hW : Wr p ws0 cs) (hC : C <= 1000) {s : WSt} (h : Iv p ws0 cs K M f g C 0 s) (order : List Int) : ∀ n, n <= 1000 -> Iv p ws0 cs K M f g C n (Tr.runO s order n)
 | 0, _ => h
 | n + 1, hn => (Iv.runO hW hC h order n (by omega)).stepO (by omega) hW hC _
theorem Iv.run {T : Nat} (hC : C <= 1000) {s : WSt} (h : Iv p ws0 cs K M f g C T s) : ∀ n, Iv p ws0 cs K M f g C T ⟨(runJ n (s.k, s.j)).1, (runJ n (s.k, s.j)).2, s.ws⟩ /\ (qbx (runJ n (s.k, s.j)).2 ∨ left (runJ n (s.k, s.j)) + n <= 100)
 | 0 => ⟨h, .inr (by obtain ⟨_, _, _, _, _, _, _, _, _, c3, _⟩ := h; exact c3)⟩
 | n + 1 => by
  obtain ⟨h1, h2⟩ := Iv.run hC h n
  rw [qim]
  by_cases ho : qbx (runJ n (s.k, s.j)).2
  ·rw [if_neg (fun hh => hh.1 ho)]
   exact ⟨h1, .inl ho⟩
  ·obtain ⟨g1, g2, k, rf, rg, hP, hA, c1, c2, c3, h3⟩ := h1
   dsimp only at hA c2 c3 h3 g1 g2
   have hm := hA.may hP (by dsimp only; omega) ho
   obtain ⟨q1, q2, q3⟩ := hA.step hP ho
   rw [if_pos ⟨ho, hm⟩]
   generalize runJ n (s.k, s.j) = t at *
   have q4 : left ((stepJ t.1 t.2).1, (stepJ t.1 t.2).2) < left (t.1, t.2) := q2
   have q5 : (stepJ t.1 t.2).1.Calls <= t.1.Calls + 1 := q3
   refine ⟨⟨g1, g2, k, rf, rg, hP, q1, c1, by dsimp only; omega, by dsimp only; omega, h3⟩, ?_⟩
   rcases h2 with h2 | h2
   ·exact absurd h2 ho
   ·right; have q6 : left (stepJ t.1 t.2) < left t := q2; omega
theorem Iv.jobRun {T : Nat} (hC : C <= 1000) {s : WSt} (h : Iv p ws0 cs K M f g C T s) : Iv p ws0 cs K M f g C T ⟨(qcy s.k s.j 200).1, (qcy s.k s.j 200).2, s.ws⟩ /\ qbx (qcy s.k s.j 200).2 := by
 have hr : qcy s.k s.j 200 = runJ 200 (s.k, s.j) := if_pos ⟨by decide, by decide⟩
 rw [hr]
 obtain ⟨h1, h2⟩ := h.run hC 200
 refine ⟨h1, ?_⟩
 rcases h2 with h2 | h2
 ·exact h2
 ·omega
theorem Iv.fin {T : Nat} (hT : T <= 300) (hW : Wr p ws0 cs) (hC : C <= 1000) {s : WSt} (h : Iv p ws0 cs K M f g C T s) (ho : qbx s.j) : ∀ n, n <= ws0.length -> n <= 300 -> Iv p ws0 cs K M f g C (T + n) ⟨(finW (s.k, s.ws) n).1, s.j, (finW (s.k, s.ws) n).2⟩ /\ ∀ m, m < n -> ((finW (s.k, s.ws) n).2.getD m noW).Done = true
 | 0, _, _ => ⟨h, fun m hm => absurd hm (Nat.not_lt_zero m)⟩
 | n + 1, hn, hn3 => by
  obtain ⟨h1, h2⟩ := Iv.fin hT hW hC h ho n (by omega) (by omega)
  obtain ⟨h3, h4⟩ := h1.writer (by omega) hW hC (n := n) (by omega)
  dsimp only at h3 h4
  refine ⟨h3, fun m hm => ?_⟩
  have hl := h1.1
  dsimp only at hl
  show (((finW (s.k, s.ws) n).2.set n _).getD m noW).Done = true
  rw [qgl _ _ _ _ (by omega)]
  split
  ·rw [h4, decide_eq_false (by unfold qbx at ho; omega), Bool.and_false]; rfl
  ·exact h2 m (by omega)
theorem q42 {T : Nat} (hT : T <= 300) (hW : Wr p ws0 cs) (hC : C <= 1000) (hlen : ws0.length <= 300) {s x : WSt} (h : Iv p ws0 cs K M f g C T s) (hx : qg5 s.k s.j s.ws = x) :
  x.ws.length = ws0.length /\ okK x.k /\ qbx x.j /\ ∀ n, n < ws0.length -> (x.ws.getD n noW).Done = true /\ (x.ws.getD n noW).Addr = (ws0.getD n noW).Addr /\ (qd7 x.k.Machine (x.ws.getD n noW).Addr) = ((x.ws.getD n noW).Value, 0) := by
 obtain ⟨h1, h2⟩ := h.jobRun hC
 obtain ⟨h3, h4⟩ := h1.fin hT hW hC h2 ws0.length (Nat.le_refl _) hlen
 have hl := h.1
 unfold qg5 at hx
 rw [hl] at hx
 subst hx
 dsimp only at h3 h4 ⊢
 obtain ⟨g1, g2, k, rf, rg, hP, hA, c1, c2, c3, h5⟩ := h3
 dsimp only at hA c2 g1 g2 h5
 refine ⟨g1, hA.okKer hP (by dsimp only; omega), h2, fun n hn => ?_⟩
 have hs := g2 n hn
 have hd := h4 n hn
 have hv := (h5 n hn).1 hd
 refine ⟨hd, hs.1, ?_⟩
 rw [hs.1, hW.addr n hn, hA.live hP (hW.lt n hn), hv]
end
end Tr
end Go.Proofs.YtfiofmaknndpcaaGreatDoor
namespace Go.Proofs.YtfiofmaknndpcaaGreatDoor
open Go.RowKit
namespace Eng
open Tr
def wrS (bs : List Int) (p : GPlan) (c : Cu) : Nat -> List GWriter × Cu
 | 0 => ([], c)
 | i + 1 => if (wrS bs p c i).1.length < 3 then
     if (xg bs (wrS bs p c i).2 4).1 = 0 then ((wrS bs p c i).1 ++ [⟨pgS p i * 16 + (i : Int), 1 + (xg bs (xg bs (wrS bs p c i).2 4).2 999).1, false, 0⟩], (xg bs (xg bs (wrS bs p c i).2 4).2 999).2)
     else ((wrS bs p c i).1, (xg bs (wrS bs p c i).2 4).2)
  else wrS bs p c i
theorem qn5 {bs : List Int} {p : GPlan} {c : Cu} (h : okCu bs c) : ∀ i, okCu bs (wrS bs p c i).2 /\ (wrS bs p c i).1.length <= 3
 | 0 => ⟨h, Nat.zero_le _⟩
 | i + 1 => by
  obtain ⟨h1, h2⟩ := qn5 h (p := p) i
  unfold wrS
  split
  ·split
   ·exact ⟨wu _ (wu _ h1), by rw [List.length_append]; show _ + 1 <= 3; omega⟩
   ·exact ⟨wu _ h1, h2⟩
  ·exact ⟨h1, h2⟩
theorem qsd {α : Type} (d : α) (l : List α) (x : α) (n : Nat) : (l ++ [x]).getD n d = if n < l.length then l.getD n d else if n = l.length then x else d := by
 rw [List.getD_eq_getElem?_getD]
 split
 ·rename_i h; rw [List.getElem?_append_left h, List.getD_eq_getElem?_getD]
 ·split
  ·rename_i h; subst h; rw [List.getElem?_append_right (Nat.le_refl _), Nat.sub_self]; rfl
  ·rw [List.getElem?_eq_none (by rw [List.length_append]; show l.length + 1 <= n; omega)]; rfl
theorem qt6 {bs : List Int} {p : GPlan} {c : Cu} : ∀ i, i <= 16 -> ∃ cs, Wr p (wrS bs p c i).1 cs /\ (∀ n, n < (wrS bs p c i).1.length -> cs.getD n 0 < i) /\ ∀ n, n < (wrS bs p c i).1.length -> ((wrS bs p c i).1.getD n noW).Done = false /\ ((wrS bs p c i).1.getD n noW).Waits = 0
 | 0, _ => ⟨[], ⟨rfl, fun n hn => absurd hn (Nat.not_lt_zero n), fun n hn => absurd hn (Nat.not_lt_zero n), fun n hn => absurd hn (Nat.not_lt_zero n), fun n m hn => absurd hn (Nat.not_lt_zero n)⟩, fun n hn => absurd hn (Nat.not_lt_zero n), fun n hn => absurd hn (Nat.not_lt_zero n)⟩
 | i + 1, hi => by
  obtain ⟨cs, hW, hlt, hd⟩ := qt6 (bs := bs) (p := p) (c := c) i (by omega)
  unfold wrS
  generalize wrS bs p c i = s at *
  split
  ·split
   ·have hb := qbq bs (xg bs s.2 4).2 999 (by decide)
    generalize (xg bs (xg bs s.2 4).2 999).1 = b at *
    dsimp only
    have hl := hW.len
    have ca : ∀ n, (cs ++ [i]).getD n 0 = if n < cs.length then cs.getD n 0 else if n = cs.length then i else 0 := qsd 0 cs i
    have wa := qsd noW s.1 ⟨pgS p i * 16 + (i : Int), 1 + b, false, 0⟩
    have hsz : (s.1 ++ [(⟨pgS p i * 16 + (i : Int), 1 + b, false, 0⟩ : GWriter)]).length = s.1.length + 1 := by rw [List.length_append]; rfl
    refine ⟨cs ++ [i], ⟨by rw [List.length_append, hsz, hl]; rfl, fun n hn => ?_, fun n hn => ?_, fun n hn => ?_, fun n m hn hm => ?_⟩, fun n hn => ?_, fun n hn => ?_⟩
    ·rw [ca]; rw [hsz] at hn
     split
     ·exact hW.lt n (by omega)
     ·rw [if_pos (by omega)]; omega
    ·rw [ca, wa]; rw [hsz] at hn
     by_cases h : n < s.1.length
     ·rw [if_pos h, if_pos (show n < cs.length by omega)]; exact hW.addr n h
     ·rw [if_neg h, if_pos (show n = s.1.length by omega), if_neg (show ¬ n < cs.length by omega), if_pos (show n = cs.length by omega)]; rfl
    ·rw [wa]; rw [hsz] at hn
     by_cases h : n < s.1.length
     ·rw [if_pos h]; exact hW.val n h
     ·rw [if_neg h, if_pos (by omega)]; dsimp only; omega
    ·rw [ca, ca]; rw [hsz] at hn hm
     intro he
     by_cases h : n < s.1.length
     ·by_cases h' : m < s.1.length
      ·rw [if_pos (by omega), if_pos (by omega)] at he; exact hW.inj n m h h' he
      ·have := hlt n h
       rw [if_pos (by omega), if_neg (by omega), if_pos (by omega)] at he; omega
     ·by_cases h' : m < s.1.length
      ·have := hlt m h'
       rw [if_neg (by omega), if_pos (by omega), if_pos (by omega)] at he; omega
      ·omega
    ·rw [ca]; rw [hsz] at hn
     split
     ·have := hlt n (by omega); omega
     ·rw [if_pos (by omega)]; omega
    ·rw [wa]; rw [hsz] at hn
     by_cases h : n < s.1.length
     ·rw [if_pos h]; exact hd n h
     ·rw [if_neg h, if_pos (by omega)]; exact ⟨rfl, rfl⟩
   ·exact ⟨cs, hW, fun n hn => by have := hlt n hn; omega, hd⟩
  ·exact ⟨cs, hW, fun n hn => by have := hlt n hn; omega, hd⟩
def orS (bs : List Int) (s : List Int × Cu) : List Int × Cu :=
 if (xg bs (xg bs (xg bs s.2 40).2 5).2 2).1 = 0 then (s.1 ++ [(xg bs (xg bs s.2 40).2 5).1 - 1] ++ [-1], (xg bs (xg bs (xg bs s.2 40).2 5).2 2).2)
 else (s.1 ++ [(xg bs (xg bs s.2 40).2 5).1 - 1], (xg bs (xg bs (xg bs s.2 40).2 5).2 2).2)
def orT (bs : List Int) (c : Cu) : Nat -> List Int × Cu
 | 0 => ([], c)
 | i + 1 => orS bs (orT bs c i)
def orGo (bs : List Int) : Nat -> Nat -> List Int × Cu -> List Int × Cu
 | 0, _, s => (s.1, (xg bs s.2 40).2)
 | f + 1, i, s => if (i : Int) < (xg bs s.2 40).1 then orGo bs f (i + 1) (orS bs s) else (s.1, (xg bs s.2 40).2)
def dOrd (bs : List Int) (c : Cu) : List Int × Cu := orGo bs 40 0 ([], c)
theorem q1e {bs : List Int} {s : List Int × Cu} (h : okCu bs s.2) : okCu bs (orS bs s).2 /\ (orS bs s).1.length <= s.1.length + 2 := by
 unfold orS
 split
 ·exact ⟨wu _ (wu _ (wu _ h)), by simp⟩
 ·exact ⟨wu _ (wu _ (wu _ h)), by simp⟩
theorem qt7 {bs : List Int} {c : Cu} (h : okCu bs c) : ∀ i, okCu bs (orT bs c i).2 /\ (orT bs c i).1.length <= 2 * i
 | 0 => ⟨h, Nat.le_refl _⟩
 | i + 1 => by
  obtain ⟨h1, h2⟩ := qt7 h i
  obtain ⟨h3, h4⟩ := q1e h1
  exact ⟨h3, by show (orS bs _).1.length <= _; omega⟩
theorem qv4 {bs : List Int} : ∀ (f i : Nat) (s : List Int × Cu), okCu bs s.2 -> okCu bs (orGo bs f i s).2 /\ (orGo bs f i s).1.length <= s.1.length + 2 * f
 | 0, _, s, h => ⟨wu _ h, by show s.1.length <= _; omega⟩
 | f + 1, i, s, h => by
  unfold orGo
  split
  ·obtain ⟨h3, h4⟩ := q1e h
   obtain ⟨h5, h6⟩ := qv4 f (i + 1) _ h3
   exact ⟨h5, by omega⟩
  ·exact ⟨wu _ h, by show s.1.length <= _; omega⟩
theorem q43 (bs : List Int) {f i : Nat} {s : List Int × Cu} (h : (i : Int) < (xg bs s.2 40).1) (hf : f = 40 - i) : orGo bs f i s = orGo bs (40 - (i + 1)) (i + 1) (orS bs s) := by
 have hb := qbq bs s.2 40 (by decide)
 obtain ⟨f', rfl⟩ : ∃ f', f = f' + 1 := ⟨f - 1, by omega⟩
 show (if _ then _ else _) = _
 rw [if_pos h, show f' = 40 - (i + 1) by omega]
theorem q1f (bs : List Int) {f i : Nat} {s : List Int × Cu} (h : ¬ (i : Int) < (xg bs s.2 40).1) : orGo bs f i s = (s.1, (xg bs s.2 40).2) := by
 cases f with
 | zero => rfl
 | succ f => exact if_neg h
theorem q44 : ∀ a b : _root_.Fin 4, a ≠ b -> ∀ c ∈ [a, b], (qh (xk 4 4).1.Table ((c.val : Nat) : Int)).Mode ≠ 1 /\ (qh (nwM (xk 4 4).1 ((a.val : Nat) : Int)).Table ((c.val : Nat) : Int)).Mode ≠ 1 ∧
  (qh (nwM (xk 4 4).1 ((b.val : Nat) : Int)).Table ((c.val : Nat) : Int)).Mode ≠ 1 /\ (qh (nwM (nwM (xk 4 4).1 ((a.val : Nat) : Int)) ((b.val : Nat) : Int)).Table ((c.val : Nat) : Int)).Mode ≠ 1 := by decide +kernel
theorem qxp {r : List Int} {p : GPlan} (h0 : ∀ x ∈ r, 0 <= x) (hl : r.length <= 40) (hp : plOk p) (hk4 : p.Keep < 4) (hm4 : p.Move < 4) :
  (qh (pK2 r p).Machine.Table p.Keep).Mode ≠ 1 /\ (qh (pK2 r p).Machine.Table p.Move).Mode ≠ 1 := by
 have hkn : qaw 4 4 r = (⟨(xk 4 4).1, 0, r⟩, true) := if_pos ⟨by decide, m44.1, ⟨Int.le_refl _, (by show (0 : Int) <= 100000; decide)⟩, h0, by show r.length <= 40; omega⟩
 have hkp := hp.2.1
 have hmp := hp.2.2.1
 have hne := hp.1
 have t := q44 ⟨p.Keep.toNat, by omega⟩ ⟨p.Move.toNat, by omega⟩ (by intro h; have := congrArg _root_.Fin.val h; dsimp only at this; omega)
 have tk := t _ (List.mem_cons_self ..)
 have tm := t _ (List.mem_cons_of_mem _ (List.mem_cons_self ..))
 dsimp only at tk tm
 rw [show ((p.Keep.toNat : Nat) : Int) = p.Keep by omega, show ((p.Move.toNat : Nat) : Int) = p.Move by omega] at tk tm
 have hE : (pK2 r p) = (pNew (pNew ⟨(xk 4 4).1, 0, r⟩ p.Keep).1 p.Move).1 := by unfold pK2 pK0; rw [hkn]
 rw [hE]
 have n1 := qf3 ⟨(xk 4 4).1, 0, r⟩ p.Keep
 generalize (pNew ⟨(xk 4 4).1, 0, r⟩ p.Keep).1 = k1 at *
 dsimp only at n1
 rcases qf3 k1 p.Move with n2 | n2 <;> rw [n2] <;> rcases n1 with n1 | n1 <;> rw [n1]
 ·exact ⟨tk.2.2.2, tm.2.2.2⟩
 ·exact ⟨tk.2.2.1, tm.2.2.1⟩
 ·exact ⟨tk.2.1, tm.2.1⟩
 ·exact ⟨tk.1, tm.1⟩
theorem qly (m : GMachine) (addr v : Int) : (qaa m addr v).1.Table = m.Table := by
 rcases qjf m addr v with h | h <;> rw [h]
 rfl
theorem qo6 (bs : List Int) (p : GPlan) (s : GMachine × Cu) : ∀ i, (ptS bs p s i).1.Table = s.1.Table
 | 0 => rfl
 | i + 1 => by
  have ih := qo6 bs p s i
  show (putS bs p (ptS bs p s i) i).1.Table = _
  unfold putS
  split
  ·split
   ·exact ih
   ·dsimp only; rw [qly]; exact ih
  ·exact ih
theorem qse {bs : List Int} {c : Cu} (hc : okCu bs c) : (qh (qcl bs c).1.1.Machine.Table (qcl bs c).1.2.Keep).Mode ≠ 1 /\ (qh (qcl bs c).1.1.Machine.Table (qcl bs c).1.2.Move).Mode ≠ 1 := by
 obtain ⟨f, hf⟩ : ∃ f, dRef bs c = f := ⟨_, rfl⟩
 have hrf := qfc bs 4 0 ([], c) hc (fun x hx => nomatch hx)
 rw [show rGo bs 4 0 ([], c) = f from hf] at hrf
 obtain ⟨of, f0, fl⟩ := hrf
 have fl4 : f.1.length <= 4 := Nat.le_trans fl (by simp)
 obtain ⟨oq, hp, hk4, hm4⟩ := qh7 of
 unfold qcl
 rw [hf]
 dsimp only
 rw [qo6]
 exact qxp f0 (by omega) hp hk4 hm4
def Un (p : GPlan) (ws0 : List GWriter) (k0 : GKernel) (s : WSt) : Prop :=
 s.ws.length = ws0.length /\ okK s.k /\ s.k.Machine.Table = k0.Machine.Table /\ s.j = ⟨p, 0, 0⟩ /\ ∀ n, n < ws0.length -> q1d (ws0.getD n noW) (s.ws.getD n noW) /\ (s.ws.getD n noW).Waits = 0
section
variable {p : GPlan} {ws0 : List GWriter} {cs : List Nat} {k0 : GKernel}
theorem Un.writer (hp : plOk p) (hW : Wr p ws0 cs) (h1 : (qh k0.Machine.Table p.Keep).Mode ≠ 1) (h2 : (qh k0.Machine.Table p.Move).Mode ≠ 1) {s : WSt} (h : Un p ws0 k0 s) {n : Nat} (hn : n < ws0.length) :
  Un p ws0 k0 ⟨(jq s.k (s.ws.getD n noW)).1, s.j, s.ws.set n (jq s.k (s.ws.getD n noW)).2⟩ /\ (jq s.k (s.ws.getD n noW)).2.Done = true := by
 obtain ⟨g1, g2, g3, g4, g5⟩ := h
 obtain ⟨w, hw⟩ : ∃ w, s.ws.getD n noW = w := ⟨_, rfl⟩
 rw [hw]
 have g5n := g5 n hn
 rw [hw] at g5n
 unfold jq
 rw [if_pos g2]
 by_cases hd : w.Done = true
 ·have hst : stepW s.k w = (s.k, w) := by unfold stepW; rw [if_pos hd]
  rw [hst]
  dsimp only
  rw [qkc (by omega) hw]
  exact ⟨⟨g1, g2, g3, g4, g5⟩, hd⟩
 ·have hno : (qaa s.k.Machine w.Addr w.Value).2 ≠ 2 := by
   unfold qaa
   split
   ·rw [if_neg]
    ·split
     ·dsimp only; decide
     ·dsimp only; decide
    ·have hE : (jr s.k.Machine w.Addr).1 = qh s.k.Machine.Table (pgW p (cs.getD n 0)) := by
      have h16 := hW.lt n hn
      have hpg : 0 <= pgW p (cs.getD n 0) := by unfold pgW; have := hp.2.1; have := hp.2.2.1; split <;> omega
      rw [g5n.1.1, hW.addr n hn]
      unfold jr
      rw [if_neg (by omega), show (pgW p (cs.getD n 0) * 16 + ((cs.getD n 0 : Nat) : Int)) / 16 = pgW p (cs.getD n 0) by omega]
     rw [hE, g3]
     unfold pgW
     split
     ·exact h2
     ·exact h1
   ·dsimp only; decide
  have hst : stepW s.k w = (⟨(qaa s.k.Machine w.Addr w.Value).1, s.k.Calls, s.k.Refuse⟩, ⟨w.Addr, w.Value, true, w.Waits⟩) := by unfold stepW; rw [if_neg hd, if_neg hno]
  rw [hst]
  dsimp only
  refine ⟨⟨by rw [List.length_set]; exact g1, ⟨qo5 g2.1 _ _, g2.2⟩, by rw [qly]; exact g3, g4, fun m hm => ?_⟩, rfl⟩
  rw [qgl _ _ _ _ (by omega)]
  by_cases e : m = n
  ·subst e; rw [if_pos rfl]; exact ⟨g5n.1, g5n.2⟩
  ·rw [if_neg e]; exact g5 m hm
theorem Un.job (hno : ¬ ((qh k0.Machine.Table p.Keep).Mode ≠ 0 /\ (qh k0.Machine.Table p.Move).Mode ≠ 0)) {s : WSt} (h : Un p ws0 k0 s) : qbc s.k s.j = (s.k, s.j) := by
 obtain ⟨g1, g2, g3, g4, g5⟩ := h
 unfold qbc
 rw [if_neg]
 intro hm
 have a := hm.2.2.1
 have b := hm.2.2.2.1
 unfold qap at a b
 rw [g3, g4] at a b
 exact hno ⟨a, b⟩
theorem Un.stepO (hp : plOk p) (hW : Wr p ws0 cs) (h1 : (qh k0.Machine.Table p.Keep).Mode ≠ 1) (h2 : (qh k0.Machine.Table p.Move).Mode ≠ 1) (hno : ¬ ((qh k0.Machine.Table p.Keep).Mode ≠ 0 /\ (qh k0.Machine.Table p.Move).Mode ≠ 0)) {s : WSt} (h : Un p ws0 k0 s) (o : Int) : Un p ws0 k0 (Tr.stepO s o) := by
 unfold Tr.stepO
 split
 ·rw [h.job hno]; exact h
 ·split
  ·have := h.1
   exact (h.writer hp hW h1 h2 (n := o.toNat) (by omega)).1
  ·exact h
theorem Un.runO (hp : plOk p) (hW : Wr p ws0 cs) (h1 : (qh k0.Machine.Table p.Keep).Mode ≠ 1) (h2 : (qh k0.Machine.Table p.Move).Mode ≠ 1) (hno : ¬ ((qh k0.Machine.Table p.Keep).Mode ≠ 0 /\ (qh k0.Machine.Table p.Move).Mode ≠ 0)) {s : WSt} (h : Un p ws0 k0 s) (order : List Int) : ∀ n, Un p ws0 k0 (Tr.runO s order n)
 | 0 => h
 | n + 1 => (Un.runO hp hW h1 h2 hno h order n).stepO hp hW h1 h2 hno _
end
theorem q45 {bs : List Int} {c : Cu} (h : okCu bs c) : (dOrd bs c).1.length <= 80 := by
 have := (qv4 40 0 ([], c) h).2
 exact Nat.le_trans this (Nat.le_refl 80)
theorem qsf {p : GPlan} {ws : List GWriter} {cs : List Nat} {k : GKernel} {K M f g : Nat} {rf rg : List Int} (hP : Pr k p K M f g rf rg) (hd : ∀ n, n < ws.length -> (ws.getD n noW).Done = false /\ (ws.getD n noW).Waits = 0) :
  Iv p ws cs K M f g k.Calls 0 ⟨k, ⟨p, 0, 0⟩, ws⟩ := by
 obtain ⟨h1, h2, h3⟩ := q05 hP 0
 refine ⟨rfl, fun n hn => ⟨rfl, rfl⟩, k, rf, rg, hP, h1, Int.le_refl _, h2, ?_, fun n hn => ?_⟩
 ·show left (k, ⟨p, 0, 0⟩) <= 100
  have h3' : qbx (⟨p, 0, 0⟩ : GJob) ∨ left (k, ⟨p, 0, 0⟩) + 0 <= 100 := h3
  rcases h3' with h | h
  ·unfold qbx at h; dsimp only at h; omega
  ·omega
 ·obtain ⟨a, b⟩ := hd n hn
  dsimp only
  rw [a, b]
  exact ⟨fun h => (nomatch h), fun h => absurd h (by decide), Int.le_refl _, Int.le_refl _⟩
theorem qsg {bs : List Int} {c : Cu} (hc : okCu bs c) {k : GKernel} {p : GPlan} {cu : Cu} {w : List GWriter × Cu} {o : List Int} (hk : (qcl bs c).1.1 = k) (hp : (qcl bs c).1.2 = p) (hw : wrS bs p cu 16 = w) (ho : o.length <= 200)
  (hK : (qh k.Machine.Table p.Keep).Mode ≠ 0) (hM : (qh k.Machine.Table p.Move).Mode ≠ 0) {x1 x2 : WSt} (h1 : qbh k ⟨p, 0, 0⟩ w.1 o = x1) (h2 : qg5 x1.k x1.j x1.ws = x2) :
  x2.ws.length = w.1.length /\ okK x2.k /\ qbx x2.j /\ ∀ n, n < w.1.length -> (x2.ws.getD n noW).Done = true /\ (x2.ws.getD n noW).Addr = (w.1.getD n noW).Addr /\ (qd7 x2.k.Machine (x2.ws.getD n noW).Addr) = ((x2.ws.getD n noW).Value, 0) := by
 obtain ⟨K, M, f, g, rf, rg, hP⟩ := qsc hc hk hp hK hM
 obtain ⟨cs, hW, _, hd⟩ := qt6 (bs := bs) (p := p) (c := cu) 16 (Nat.le_refl _)
 rw [hw] at hW hd
 have hs := qsf (cs := cs) hP hd
 have hr := hs.runO hW hP.calls o o.length (by omega)
 unfold qbh at h1
 rw [if_pos ho] at h1
 rw [h1] at hr
 have hl : w.1.length <= 300 := by
  have := hW.len
  have h3 : ∀ i, (wrS bs p cu i).1.length <= 3 := fun i => by
   induction i with
   | zero => exact Nat.zero_le _
   | succ i ih => unfold wrS; split
                  · split
                    · dsimp only; rw [List.length_append]; show _ + 1 <= 3; omega
                    · exact ih
                  · exact ih
  have := h3 16
  rw [hw] at this
  omega
 exact q42 (by omega) hW hP.calls hl hr h2
theorem qxq {p : GPlan} (hp : plOk p) {c : Nat} (hc : c < 16) : ((pgW p c * 16 + (c : Int)).tdiv 16 = p.Move ↔ (c : Int) ∈ p.Cells) /\ 0 <= pgW p c * 16 + (c : Int) /\ pgW p c * 16 + (c : Int) <= 1000 := by
 have h1 := hp.1
 have h2 := hp.2.1
 have h3 := hp.2.2.1
 have hr : 0 <= pgW p c /\ pgW p c <= 31 := by unfold pgW; split <;> omega
 rw [Int.tdiv_eq_ediv_of_nonneg (by omega), show (pgW p c * 16 + (c : Int)) / 16 = pgW p c by omega]
 refine ⟨?_, by omega, by omega⟩
 unfold pgW
 split
 ·rename_i h; exact ⟨fun _ => h, fun _ => rfl⟩
 ·rename_i h; exact ⟨fun e => absurd e h1, fun e => absurd e h⟩
theorem q1g {bs : List Int} {p : GPlan} {cu : Cu} : ∀ i, (wrS bs p cu i).1.length <= 3
 | 0 => Nat.zero_le _
 | i + 1 => by
  have ih := q1g (bs := bs) (p := p) (cu := cu) i
  unfold wrS
  split
  ·split
   ·dsimp only; rw [List.length_append]; show _ + 1 <= 3; omega
   ·exact ih
  ·exact ih
theorem qxr {bs : List Int} {c : Cu} (hc : okCu bs c) {k : GKernel} {p : GPlan} {cu : Cu} {w : List GWriter × Cu} {o : List Int} (hk : (qcl bs c).1.1 = k) (hp : (qcl bs c).1.2 = p) (hw : wrS bs p cu 16 = w) (ho : o.length <= 200)
  {x1 : WSt} (h1 : qbh k ⟨p, 0, 0⟩ w.1 o = x1) :
  x1.ws.length = w.1.length /\ okK x1.k /\ okJ x1.j /\ ∀ n, n < w.1.length -> (0 <= (w.1.getD n noW).Addr /\ (w.1.getD n noW).Addr <= 1000) /\ (x1.ws.getD n noW).Addr = (w.1.getD n noW).Addr ∧
   (0 < (x1.ws.getD n noW).Waits -> (w.1.getD n noW).Addr.tdiv 16 = p.Move) /\ ((x1.ws.getD n noW).Done = false -> (w.1.getD n noW).Addr.tdiv 16 = p.Move -> (jq x1.k (x1.ws.getD n noW)).2.Done = !qn3 x1.j) := by
 obtain ⟨g1, g2, g3, g4, g5⟩ := qf4 hc
 rw [hk] at g1 g2
 rw [hp] at g3
 obtain ⟨cs, hW, _, hd⟩ := qt6 (bs := bs) (p := p) (c := cu) 16 (Nat.le_refl _)
 rw [hw] at hW hd
 have had : ∀ n, n < w.1.length -> ((w.1.getD n noW).Addr.tdiv 16 = p.Move ↔ ((cs.getD n 0 : Nat) : Int) ∈ p.Cells) /\ 0 <= (w.1.getD n noW).Addr /\ (w.1.getD n noW).Addr <= 1000 := fun n hn => by
  rw [hW.addr n hn]; exact qxq g3 (hW.lt n hn)
 unfold qbh at h1
 rw [if_pos ho] at h1
 by_cases hM : (qh k.Machine.Table p.Keep).Mode ≠ 0 /\ (qh k.Machine.Table p.Move).Mode ≠ 0
 ·obtain ⟨K, M, f, g, rf, rg, hP⟩ := qsc hc hk hp hM.1 hM.2
  have hr := (qsf (cs := cs) hP hd).runO hW hP.calls o o.length (by omega)
  rw [h1] at hr
  have hr' := hr
  obtain ⟨i1, i2, k0, rf0, rg0, hP0, hA, c1, c2, c3, h3⟩ := hr'
  have hcl := hP.calls
  have hJ := hA.okJob hP0
  refine ⟨i1, hA.okKer hP0 (by dsimp only; omega), hJ, fun n hn => ⟨(had n hn).2, (i2 n hn).1, fun hh => (had n hn).1.2 ((h3 n hn).2.1 hh), fun hdn ha => ?_⟩⟩
  have hst := (hr.writer (by omega) hW hP.calls hn).2
  have hcc := (had n hn).1.1 ha
  rw [hst, hdn]
  unfold qn3
  by_cases hph : 1 <= x1.j.Phase /\ x1.j.Phase <= 3
  ·rw [decide_eq_true (p := _ /\ _) ⟨hcc, hph⟩, decide_eq_true (p := okJ _ /\ _) ⟨hJ, hph⟩]; rfl
  ·rw [decide_eq_false (p := _ /\ _) (fun h => hph h.2), decide_eq_false (p := okJ _ /\ _) (fun h => hph h.2)]; rfl
 ·obtain ⟨m1, m2⟩ := qse hc
  rw [hk, hp] at m1 m2
  have hu0 : Un p w.1 k ⟨k, ⟨p, 0, 0⟩, w.1⟩ := ⟨rfl, g1, rfl, rfl, fun n hn => ⟨⟨rfl, rfl⟩, (hd n hn).2⟩⟩
  have hu := hu0.runO g3 hW m1 m2 hM o o.length
  rw [h1] at hu
  have hu' := hu
  obtain ⟨u1, u2, u3, u4, u5⟩ := hu'
  have hJ : okJ x1.j := by rw [u4]; exact ⟨g3, ⟨(by decide : (0 : Int) <= 0), (by decide : (0 : Int) <= 5)⟩, Int.le_refl _, by dsimp only; omega⟩
  refine ⟨u1, u2, hJ, fun n hn => ⟨(had n hn).2, (u5 n hn).1.1, fun hh => absurd hh (by rw [(u5 n hn).2]; decide), fun hdn ha => ?_⟩⟩
  rw [(hu.writer g3 hW m1 m2 hn).2]
  unfold qn3
  rw [decide_eq_false (fun h => by have := h.2.1; rw [u4] at this; dsimp only at this; omega)]; rfl
theorem qsh {bs : List Int} {p : GPlan} {c : Cu} {i : Nat} (h : ¬ (wrS bs p c i).1.length < 3) : ∀ m, wrS bs p c (i + m) = wrS bs p c i
 | 0 => rfl
 | m + 1 => by
  have e := qsh h m
  have hh : ¬ (wrS bs p c (i + m)).1.length < 3 := by rw [e]; exact h
  have : wrS bs p c (i + m + 1) = wrS bs p c (i + m) := by
   show (if _ then _ else _) = _
   rw [if_neg hh]
  rw [← e, ← this]; rfl
def qo7 (bs : List Int) (c : Cu) (p : GPlan) (r : List GWriter × Cu) : CFD := ⟨39, [.one (.box 0 0), .agg [(CV.lit (.int .i64 (p.Keep))), (CV.lit (.int .i64 (p.Move))), .hd 970]], [(0, some (.box 126 [ro 5 1 eU bs, (CV.lit (.int .i64 (((c).i : Int)))), (CV.lit (.int .i64 ((c).h)))])), (970, some (.row 3 1 (p.Cells.map Tr.eI)))], .sv (.one (.hd 1)), [(0, some (.box 126 [ro 5 1 eU bs, (CV.lit (.int .i64 (((r.2).i : Int)))), (CV.lit (.int .i64 ((r.2).h)))])), (970, some (.row 3 1 (p.Cells.map Tr.eI))), (1, some (.row 46 4 (r.1.map qau)))], [1], []⟩
theorem q8a (bs : List Int) (c : Cu) (p : GPlan) (r : List GWriter × Cu) (hc : okCu bs c) (hl : p.Cells.length <= 1048576) (hK : 0 <= p.Keep /\ p.Keep < 4) (hM : 0 <= p.Move /\ p.Move < 4) (h : wrS bs p c 16 = r) : Fn Tryz.prog (qo7 bs c p r) := by
 have hok := fun i => (qn5 hc (p := p) i).1
 have hlen := fun i => (qn5 hc (p := p) i).2
 have h0 : wrS bs p c 0 = ([], c) := rfl
 have hS : ∀ i, wrS bs p c (i + 1) = if (wrS bs p c i).1.length < 3 then
   if (xg bs (wrS bs p c i).2 4).1 = 0 then ((wrS bs p c i).1 ++ [⟨pgS p i * 16 + (i : Int), 1 + (xg bs (xg bs (wrS bs p c i).2 4).2 999).1, false, 0⟩], (xg bs (xg bs (wrS bs p c i).2 4).2 999).2)
   else ((wrS bs p c i).1, (xg bs (wrS bs p c i).2 4).2)
  else wrS bs p c i := fun _ => rfl
 have hstop : ∀ i, i <= 16 -> ¬ (wrS bs p c i).1.length < 3 -> wrS bs p c 16 = wrS bs p c i := fun i hi hh => by
  have := qsh hh (16 - i)
  rw [show i + (16 - i) = 16 by omega] at this
  exact this
 generalize wrS bs p c = T at *
 subst h
 refine qm qf Tryz.func39 rfl Tryz.call39 Tryz.ntmps39 Tryz.results39 rfl rfl rfl rfl ?_
 intro X ρ0 hb_ hgl_
 dsimp only [qo7]
 try refine nrm ?_
 repeat' (refine qj ?_; first | refine st1 ?_ | (first | ((first | refine qc qf (inps := []) rfl ?_ ?_); rotate_left; (try refine nrm ?_); rotate_right) | refine ret3 ?_ | refine end3 ?_) | (refine ql rfl trivial ?_ ?_ <;> intro hc_ <;> (try simp only [qg, inB, reduceCtorEq, cds] at hc_) <;> (try (first | contradiction | (exfalso; omega)))) | refine qi (And.intro ?_ (wk3 ?_)))
 all_goals (first | refine qj ?_ | (try (focus ((try refine nrmO ?_); (repeat' (first | exact True.intro | apply And.intro)); all_goals (try (intro (hg_ : _ = true); (try simp only [qg, inB, reduceCtorEq, cds] at hg_); (repeat' (first | exact True.intro | apply And.intro)))); all_goals (first | exact ob1 | skip)))))
 refine qaf 251 (by dsimp only [qay] <;> exact rfl) ?_
 refine qai (16) (fun i => True) (fun i => [(6, (TV.sv (.one (.lit (.int .i64 (i)))))), (5, (TV.sv (.one (.hd 8))))]) (fun i => [(8, some (.row 46 4 ((T i).1.map qau))), (0, some ((.box 126 [ro 5 1 eU bs, (CV.lit (.int .i64 ((((T i).2).i : Int)))), (CV.lit (.int .i64 (((T i).2).h)))])))]) ?_ ?_ ?_
 rotate_left
 ·first | trivial | simp
 (dsimp only [zx, yx, Int.toNat_natCast, ro, Nat.reduceAdd, Nat.reduceMul, Nat.zero_add, List.map, putT, app, zn, gOb, argT, keys, yg, dropped, gAnd, wB, rnT, rnS, rnC, rnCs, rnSs, rnM, rnB, rnN, rn, lk, St.over, ded, delL, jo, menT, jw, menS, jv, menC, hasN, resT, SV.cells]; refine wk3 ?_; (focus ((try refine nrmO ?_); (repeat' (first | exact True.intro | apply And.intro)); all_goals (try (intro (hg_ : _ = true); (try simp only [qg, inB, reduceCtorEq, cds] at hg_); (repeat' (first | exact True.intro | apply And.intro)))); all_goals (first | exact ob1 | exact rfl | skip))))
 rotate_right
 intro i hi_ hiI_
 dsimp only [zx, yx, Int.toNat_natCast, ro, Nat.reduceAdd, Nat.reduceMul, Nat.zero_add, List.map, putT, app, zn, gOb, argT, keys, yg, dropped, gAnd, wB, rnT, rnS, rnC, rnCs, rnSs, rnM, rnB, rnN, rn, lk, St.over, ded, delL, jo, menT, jw, menS, jv, menC, hasN, resT, SV.cells]
 have hSi := hS i
 have hli := hlen i
 obtain ⟨v, hv⟩ : ∃ v, xg bs (T i).2 4 = v := ⟨_, rfl⟩
 have ov : okCu bs v.2 := hv ▸ wu _ (hok i)
 obtain ⟨x, hx⟩ : ∃ x, xg bs v.2 999 = x := ⟨_, rfl⟩
 have lx := qbq bs v.2 999 (by decide)
 rw [hx] at lx
 rw [hv, hx] at hSi
 have hpg : pgS p i = if (i : Int) ∈ p.Cells then p.Move else p.Keep := rfl
 by_cases hlt : i < 16 /\ (T i).1.length < 3
 ·rw [if_pos hlt.2] at hSi
  by_cases hm : (i : Int) ∈ p.Cells
  ·rw [if_pos hm] at hpg
   rw [hpg] at hSi
   repeat' (refine qj ?_; first | refine st1 ?_ | (refine qal (id := 5) [.call (ww bs (T i).2 4 v)] ?_; generalize hQ_ : kont _ _ _ _ = Q_; repeat' (first | (focus ((first | refine jg qf ?_ ?_ | refine jh qf ?_ ?_ | refine zi qf ?_ ?_); (try dsimp only [y5, qam, ww]); (try refine nrm ?_); rotate_left)) | (subst hQ_; refine as_nil ?_))) | (refine qal (id := 7) [.call (qam p.Cells i)] ?_; generalize hQ_ : kont _ _ _ _ = Q_; repeat' (first | (focus ((first | refine jg qf ?_ ?_ | refine jh qf ?_ ?_ | refine zi qf ?_ ?_); (try dsimp only [y5, qam, ww]); (try refine nrm ?_); rotate_left)) | (subst hQ_; refine as_nil ?_))) | (refine qal (id := 9) [.call (y5 bs v.2 999 x)] ?_; generalize hQ_ : kont _ _ _ _ = Q_; repeat' (first | (focus ((first | refine jg qf ?_ ?_ | refine jh qf ?_ ?_ | refine zi qf ?_ ?_); (try dsimp only [y5, qam, ww]); (try refine nrm ?_); rotate_left)) | (subst hQ_; refine as_nil ?_))) | (first | ((first | refine qc qf (inps := []) rfl ?_ ?_); rotate_left; (try dsimp only [y5, qam, ww]); (try refine nrm ?_); rotate_right) | refine ret3 ?_ | refine end3 ?_) | (refine ql rfl trivial ?_ ?_ <;> intro hc_ <;> (try simp only [qg, inB, reduceCtorEq, cds] at hc_) <;> (try (first | contradiction | (exfalso; omega) | (exfalso; omega)))) | refine qi (And.intro ?_ (wk3 ?_)))
   all_goals (first | refine qj ?_ | (try (focus ((try refine nrmO ?_); (repeat' (first | exact True.intro | apply And.intro)); all_goals (try (intro (hg_ : _ = true); (try simp only [qg, inB, reduceCtorEq, cds] at hg_); (repeat' (first | exact True.intro | apply And.intro)))); all_goals (first | exact ob1 | exact qgh _ _ _ _ (hok i) hv | exact qje _ _ hl | exact qcj _ _ _ _ ov hx | skip)))))
   all_goals first
    | (rw [hSi, if_pos (by assumption), List.map_append, qan]; rfl)
    | (rw [hSi, if_pos (by assumption)]; done)
    | (rw [hSi, if_neg (by assumption)]; done)
    | trace_state
  ·rw [if_neg hm] at hpg
   rw [hpg] at hSi
   repeat' (refine qj ?_; first | refine st1 ?_ | (refine qal (id := 5) [.call (ww bs (T i).2 4 v)] ?_; generalize hQ_ : kont _ _ _ _ = Q_; repeat' (first | (focus ((first | refine jg qf ?_ ?_ | refine jh qf ?_ ?_ | refine zi qf ?_ ?_); (try dsimp only [y5, qam, ww]); (try refine nrm ?_); rotate_left)) | (subst hQ_; refine as_nil ?_))) | (refine qal (id := 7) [.call (qam p.Cells i)] ?_; generalize hQ_ : kont _ _ _ _ = Q_; repeat' (first | (focus ((first | refine jg qf ?_ ?_ | refine jh qf ?_ ?_ | refine zi qf ?_ ?_); (try dsimp only [y5, qam, ww]); (try refine nrm ?_); rotate_left)) | (subst hQ_; refine as_nil ?_))) | (refine qal (id := 9) [.call (y5 bs v.2 999 x)] ?_; generalize hQ_ : kont _ _ _ _ = Q_; repeat' (first | (focus ((first | refine jg qf ?_ ?_ | refine jh qf ?_ ?_ | refine zi qf ?_ ?_); (try dsimp only [y5, qam, ww]); (try refine nrm ?_); rotate_left)) | (subst hQ_; refine as_nil ?_))) | (first | ((first | refine qc qf (inps := []) rfl ?_ ?_); rotate_left; (try dsimp only [y5, qam, ww]); (try refine nrm ?_); rotate_right) | refine ret3 ?_ | refine end3 ?_) | (refine ql rfl trivial ?_ ?_ <;> intro hc_ <;> (try simp only [qg, inB, reduceCtorEq, cds] at hc_) <;> (try (first | contradiction | (exfalso; omega) | (exfalso; omega)))) | refine qi (And.intro ?_ (wk3 ?_)))
   all_goals (first | refine qj ?_ | (try (focus ((try refine nrmO ?_); (repeat' (first | exact True.intro | apply And.intro)); all_goals (try (intro (hg_ : _ = true); (try simp only [qg, inB, reduceCtorEq, cds] at hg_); (repeat' (first | exact True.intro | apply And.intro)))); all_goals (first | exact ob1 | exact qgh _ _ _ _ (hok i) hv | exact qje _ _ hl | exact qcj _ _ _ _ ov hx | skip)))))
   all_goals first
    | (rw [hSi, if_pos (by assumption), List.map_append, qan]; rfl)
    | (rw [hSi, if_pos (by assumption)]; done)
    | (rw [hSi, if_neg (by assumption)]; done)
    | trace_state
 ·have hT : T 16 = T i := by
   by_cases hn : i < 16
   ·exact hstop i (by omega) (fun hh => hlt ⟨hn, hh⟩)
   ·rw [show i = 16 by omega]
  repeat' (refine qj ?_; first | refine st1 ?_ | (refine yc (id := 10) qf (by kernel_rfl) [] ?_; refine qp ?_; intro K_ hK_; repeat' (first | ((first | refine x8 ?_ | refine x9 ?_ | refine xy ?_); refine qp ?_; intro K_ hK_; (try refine nrmE ?_)) | (refine zg ?_; (repeat subst hK_); dsimp only; refine Exists.intro _ (And.intro rfl (And.intro (by kernel_rfl) (And.intro ?_ ?_))); rotate_left; (try refine nrm ?_); rotate_right))) | (first | ((first | refine qc qf (inps := []) rfl ?_ ?_); rotate_left; (try refine nrm ?_); rotate_right) | refine ret3 ?_ | refine end3 ?_) | (refine ql rfl trivial ?_ ?_ <;> intro hc_ <;> (try simp only [qg, inB, reduceCtorEq, cds] at hc_) <;> (try (first | contradiction | (exfalso; omega) | (exfalso; exact hlt ⟨by omega, by omega⟩)))) | refine qi (And.intro ?_ (wk3 ?_)))
  all_goals (first | refine qj ?_ | (try (focus ((try refine nrmO ?_); (repeat' (first | exact True.intro | apply And.intro)); all_goals (try (intro (hg_ : _ = true); (try simp only [qg, inB, reduceCtorEq, cds] at hg_); (repeat' (first | exact True.intro | apply And.intro)))); all_goals (first | exact ob1 | exact rfl | skip)))))
  all_goals first | (rw [hT]; done) | trace_state
 all_goals first | (rw [h0]; done) | (rw [h0]; rfl)
def qlc (bs : List Int) (c : Cu) (r : List Int × Cu) : CFD := ⟨40, [.one (.box 0 0)], [(0, some (.box 126 [ro 5 1 eU bs, (CV.lit (.int .i64 (((c).i : Int)))), (CV.lit (.int .i64 ((c).h)))]))], .sv (.one (.hd 1)), [(0, some (.box 126 [ro 5 1 eU bs, (CV.lit (.int .i64 (((r.2).i : Int)))), (CV.lit (.int .i64 ((r.2).h)))])), (1, some (.row 3 1 (r.1.map Tr.eI)))], [1], []⟩
theorem q46 (bs : List Int) (c : Cu) (V : List Int × Cu) (hc : okCu bs c) (hV : dOrd bs c = V) : Fn Tryz.prog (qlc bs c V) := by
 have hVe : V = orGo bs 40 0 ([], c) := hV.symm
 have hok := fun i => (qt7 hc i).1
 have hlen := fun i => (qt7 hc i).2
 have h0 : orT bs c 0 = ([], c) := rfl
 have hS : ∀ i, orT bs c (i + 1) = orS bs (orT bs c i) := fun _ => rfl
 generalize orT bs c = T at *
 have hB : V = orGo bs (40 - 0) 0 (T 0) := by rw [h0]; exact hVe
 refine qm qf Tryz.func40 rfl Tryz.call40 Tryz.ntmps40 Tryz.results40 rfl rfl rfl rfl ?_
 intro X ρ0 hb_ hgl_
 dsimp only [qlc]
 try refine nrm ?_
 repeat' (refine qj ?_; first | refine st1 ?_ | (first | ((first | refine qc qf (inps := []) rfl ?_ ?_); rotate_left; (try refine nrm ?_); rotate_right) | refine ret3 ?_ | refine end3 ?_) | (refine ql rfl trivial ?_ ?_ <;> intro hc_ <;> (try simp only [qg, inB, reduceCtorEq, cds] at hc_) <;> (try (first | contradiction | (exfalso; omega)))) | refine qi (And.intro ?_ (wk3 ?_)))
 all_goals (first | refine qj ?_ | (try (focus ((try refine nrmO ?_); (repeat' (first | exact True.intro | apply And.intro)); all_goals (try (intro (hg_ : _ = true); (try simp only [qg, inB, reduceCtorEq, cds] at hg_); (repeat' (first | exact True.intro | apply And.intro)))); all_goals (first | exact ob1 | skip)))))
 refine qaf 29 (by dsimp only [qay] <;> exact rfl) ?_
 refine qai (40) (fun i => V = orGo bs (40 - i) i (T i)) (fun i => [(4, (TV.sv (.one (.lit (.int .i64 (i)))))), (3, (TV.sv (.one (.hd 5))))]) (fun i => [(5, some (.row 3 1 ((T i).1.map Tr.eI))), (0, some ((.box 126 [ro 5 1 eU bs, (CV.lit (.int .i64 ((((T i).2).i : Int)))), (CV.lit (.int .i64 (((T i).2).h)))])))]) ?_ ?_ ?_
 rotate_left
 ·first | trivial | simp
 (dsimp only [zx, yx, Int.toNat_natCast, ro, Nat.reduceAdd, Nat.reduceMul, Nat.zero_add, List.map, putT, app, zn, gOb, argT, keys, yg, dropped, gAnd, wB, rnT, rnS, rnC, rnCs, rnSs, rnM, rnB, rnN, rn, lk, St.over, ded, delL, jo, menT, jw, menS, jv, menC, hasN, resT, SV.cells]; refine wk3 ?_; (focus ((try refine nrmO ?_); (repeat' (first | exact True.intro | apply And.intro)); all_goals (try (intro (hg_ : _ = true); (try simp only [qg, inB, reduceCtorEq, cds] at hg_); (repeat' (first | exact True.intro | apply And.intro)))); all_goals (first | exact ob1 | exact rfl | skip))))
 rotate_right
 intro i hi_ hiI_
 dsimp only [zx, yx, Int.toNat_natCast, ro, Nat.reduceAdd, Nat.reduceMul, Nat.zero_add, List.map, putT, app, zn, gOb, argT, keys, yg, dropped, gAnd, wB, rnT, rnS, rnC, rnCs, rnSs, rnM, rnB, rnN, rn, lk, St.over, ded, delL, jo, menT, jw, menS, jv, menC, hasN, resT, SV.cells]
 obtain ⟨v, hv⟩ : ∃ v, xg bs (T i).2 40 = v := ⟨_, rfl⟩
 have hv4 : 0 <= v.1 /\ v.1 < 40 := hv ▸ qbq bs _ 40 (by decide)
 have o2 : okCu bs v.2 := hv ▸ wu _ (hok i)
 obtain ⟨a, ha⟩ : ∃ a, xg bs v.2 5 = a := ⟨_, rfl⟩
 have la : 0 <= a.1 /\ a.1 < 5 := ha ▸ qbq bs _ 5 (by decide)
 have o3 : okCu bs a.2 := ha ▸ wu _ o2
 obtain ⟨b, hb⟩ : ∃ b, xg bs a.2 2 = b := ⟨_, rfl⟩
 have hli := hlen i
 have hSi := hS i
 unfold orS at hSi
 rw [hv, ha, hb] at hSi
 repeat' (refine qj ?_; first | refine st1 ?_ | (refine qal (id := 3) [.call (y5 bs (T i).2 40 v)] ?_; generalize hQ_ : kont _ _ _ _ = Q_; repeat' (first | (focus ((first | refine jg qf ?_ ?_ | refine jh qf ?_ ?_ | refine zi qf ?_ ?_); (try dsimp only [y5, ww]); (try refine nrm ?_); rotate_left)) | (subst hQ_; refine as_nil ?_))) | (refine qal (id := 5) [.call (y5 bs v.2 5 a)] ?_; generalize hQ_ : kont _ _ _ _ = Q_; repeat' (first | (focus ((first | refine jg qf ?_ ?_ | refine jh qf ?_ ?_ | refine zi qf ?_ ?_); (try dsimp only [y5, ww]); (try refine nrm ?_); rotate_left)) | (subst hQ_; refine as_nil ?_))) | (refine qal (id := 6) [.call (ww bs a.2 2 b)] ?_; generalize hQ_ : kont _ _ _ _ = Q_; repeat' (first | (focus ((first | refine jg qf ?_ ?_ | refine jh qf ?_ ?_ | refine zi qf ?_ ?_); (try dsimp only [y5, ww]); (try refine nrm ?_); rotate_left)) | (subst hQ_; refine as_nil ?_))) | (first | ((first | refine qc qf (inps := []) rfl ?_ ?_); rotate_left; (try dsimp only [y5, ww]); (try refine nrm ?_); rotate_right) | refine ret3 ?_ | refine end3 ?_) | (refine ql rfl trivial ?_ ?_ <;> intro hc_ <;> (try simp only [qg, inB, reduceCtorEq, cds] at hc_) <;> (try (first | contradiction | (exfalso; omega)))) | refine qi (And.intro ?_ (wk3 ?_)))
 all_goals (first | refine qj ?_ | (try (focus ((try refine nrmO ?_); (repeat' (first | exact True.intro | apply And.intro)); all_goals (try (intro (hg_ : _ = true); (try simp only [qg, inB, reduceCtorEq, cds] at hg_); (repeat' (first | exact True.intro | apply And.intro)))); all_goals (first | exact ob1 | exact qcj _ _ _ _ (hok i) hv | exact qcj _ _ _ _ o2 ha | exact qgh _ _ _ _ o3 hb | skip)))))
 all_goals first
  | (have hlt : (i : Int) < (xg bs (T i).2 40).1 := by rw [hv]; assumption
     rw [hiI_, q43 bs hlt rfl, hS i]; done)
  | (have hge : ¬ (i : Int) < (xg bs (T i).2 40).1 := by rw [hv]; omega
     rw [hiI_, q1f bs hge, hv]; done)
  | (rw [hSi, if_pos hc_, List.map_append, List.map_append, qan, qan]; rfl)
  | (rw [hSi, if_neg hc_, List.map_append, qan]; rfl)
  | (rw [hSi, if_pos hc_]; done)
  | (rw [hSi, if_neg hc_]; done)
  | (rw [h0]; done)
  | (rw [h0]; rfl)
  | (simp only [List.length_map, List.length_append, List.length_cons, List.length_nil]; omega)
  | trace_state
def qgm (bs : List Int) (k : GKernel) (p : GPlan) (ws : List GWriter) (o : List Int) : CFD := ⟨7, [.one (ro 5 1 eU bs)], [], .tup [.agg [.hd 0, .hd 1, .hd 2, (CV.lit (.int .i64 (k.Calls))), .hd 3], .agg [(CV.lit (.int .i64 (p.Keep))), (CV.lit (.int .i64 (p.Move))), .hd 4], .one (.hd 5), .one (.hd 6)], [(0, some (.row 33 1 (k.Machine.Frames.Cells.map xw))), (1, some (.row 4 1 (k.Machine.Frames.Used.map Tr.eB))), (2, some (.row 42 2 (k.Machine.Table.Entries.map xe))), (3, some (.row 3 1 (k.Refuse.map Tr.eI))), (4, some (.row 3 1 (p.Cells.map Tr.eI))), (5, some (.row 46 4 (ws.map qau))), (6, some (.row 3 1 (o.map Tr.eI)))], [0, 1, 2, 3, 4, 5, 6], []⟩
theorem qsi {bs : List Int} {c : Cu} (hc : okCu bs c) : (qcl bs c).1.2.Keep < 4 /\ (qcl bs c).1.2.Move < 4 := by
 have h := qfc bs 4 0 ([], c) hc (fun x hx => nomatch hx)
 exact (qh7 (bs := bs) (c := (dRef bs c).2) h.1).2.2
set_option maxHeartbeats 1000000 in
theorem qxs (bs : List Int) (r : (GKernel × GPlan) × Cu) (w : List GWriter × Cu) (o : List Int × Cu) (hl : bs.length <= 2097152) (hb : ∀ x ∈ bs, 0 <= x /\ x <= 255) (hr : qcl bs (dNew bs) = r) (hw : wrS bs r.1.2 r.2 16 = w) (ho : dOrd bs w.2 = o) : Fn Tryz.prog (qgm bs r.1.1 r.1.2 w.1 o.1) := by
 obtain ⟨h1, h2, h3, h4, h5⟩ := qf4 (bs := bs) (c := dNew bs) (qml hl hb)
 obtain ⟨h6, h7⟩ := qsi (bs := bs) (c := dNew bs) (qml hl hb)
 rw [hr] at h1 h2 h3 h4 h5 h6 h7
 have hcl := qj5 h3.2.2.2
 have ow : okCu bs w.2 := by rw [← hw]; exact (qn5 h4 16).1
 have fC := q4q bs hl hb
 have fP := q1b bs (dNew bs) r (qml hl hb) hr
 have fW := q8a bs r.2 r.1.2 w h4 (by omega) ⟨h3.2.1.1, h6⟩ ⟨h3.2.2.1.1, h7⟩ hw
 have fO := q46 bs w.2 o ow ho
 clear h1 h2 h3 h4 h5 h6 h7 hr hw ho ow
 refine qm qf Tryz.func7 rfl Tryz.call7 Tryz.ntmps7 Tryz.results7 rfl rfl rfl rfl ?_
 intro X ρ0 hb_ hgl_
 dsimp only [qgm]
 try refine nrm ?_
 repeat' (refine qj ?_; first | refine st1 ?_ | (refine qal (id := 2) [.call (qka bs (dNew bs) r)] ?_; generalize hQ_ : kont _ _ _ _ = Q_; repeat' (first | (focus ((first | refine jg qf ?_ ?_ | refine jh qf ?_ ?_ | refine zi qf ?_ ?_); (try dsimp only [qnt, qka]); (try refine nrm ?_); rotate_left)) | (subst hQ_; refine as_nil ?_))) | (first | ((first | refine qc (id := 1) qf (inps := [.call (qnt bs)]) rfl ?_ ?_ | refine qc qf (inps := []) rfl ?_ ?_); rotate_left; (try dsimp only [qnt, qka]); (try refine nrm ?_); rotate_right) | refine ret3 ?_ | refine end3 ?_) | (refine ql rfl trivial ?_ ?_ <;> intro hc_ <;> (try simp only [qg, inB, reduceCtorEq, cds] at hc_) <;> (try (first | contradiction | (exfalso; omega)))) | refine qi (And.intro ?_ (wk3 ?_)))
 all_goals (first | refine qj ?_ | (try (focus ((try refine nrmO ?_); (repeat' (first | exact True.intro | apply And.intro)); all_goals (try (intro (hg_ : _ = true); (try simp only [qg, inB, reduceCtorEq, cds] at hg_); (repeat' (first | exact True.intro | apply And.intro)))); all_goals (first | exact ob1 | exact fC | exact fP | skip)))))
 dsimp only [zKer, zPln]
 repeat' (refine qj ?_; first | refine st1 ?_ | (refine yc (id := 3) qf (by kernel_rfl) [.call (qo7 bs r.2 r.1.2 w), .call (qlc bs w.2 o)] ?_; refine qp ?_; intro K_ hK_; repeat' (first | ((first | refine x8 ?_ | refine x9 ?_ | refine xy ?_); refine qp ?_; intro K_ hK_; (try dsimp only [qlc, qo7]); (try refine nrmE ?_)) | (refine zg ?_; (repeat subst hK_); dsimp only; refine Exists.intro _ (And.intro rfl (And.intro (by kernel_rfl) (And.intro ?_ ?_))); rotate_left; (try dsimp only [qlc, qo7]); (try refine nrm ?_); rotate_right))) | (first | ((first | refine qc qf (inps := []) rfl ?_ ?_); rotate_left; (try dsimp only [qlc, qo7]); (try refine nrm ?_); rotate_right) | refine ret3 ?_ | refine end3 ?_) | (refine ql rfl trivial ?_ ?_ <;> intro hc_ <;> (try simp only [qg, inB, reduceCtorEq, cds] at hc_) <;> (try (first | contradiction | (exfalso; omega)))) | refine qi (And.intro ?_ (wk3 ?_)))
 all_goals (first | refine qj ?_ | (try (focus ((try refine nrmO ?_); (repeat' (first | exact True.intro | apply And.intro)); all_goals (try (intro (hg_ : _ = true); (try simp only [qg, inB, reduceCtorEq, cds] at hg_); (repeat' (first | exact True.intro | apply And.intro)))); all_goals (first | exact ob1 | exact fW | exact fO | skip)))))
 all_goals trace_state
def qsj (w : World) (a : Option Addr) (len cap : Nat) (zs : List Int) : Prop :=
 (a = none /\ len = 0 /\ cap = 0 /\ zs = []) ∨
 ∃ x, a = some x /\ len <= cap /\ cap <= maxLen /\ zs.length = cap /\ (∀ i, i < zs.length -> w.cell? (x.add i) = some (.int .u8 (zs.getD i 0))) /\ ∀ n ∈ zs, (Lit.int .u8 n).wf = true
theorem lt_of_cell {w : World} {g o : Nat} {v : Value} (h : w.cell? ⟨g, o, none⟩ = some v) : g < w.heap.size := by
 rcases Nat.lt_or_ge g w.heap.size with h' | h'
 ·exact h'
 ·simp [World.cell?, Array.getElem?_eq_none h'] at h
theorem q1h {w : World} : ∀ l : List Int, RdO w (· < w.heap.size) (D.cat (l.map eU)) (l.map (Value.int .u8))
 | [] => rfl
 | x :: l => ⟨_, rfl, q1h l⟩
theorem qxt {w : World} {a : Option Addr} {len cap : Nat} {zs : List Int} (h : qsj w a len cap zs) : ∃ bs : List Int, bs.length = len /\ (∀ x ∈ bs, 0 <= x /\ x <= 255) /\ SRel (cxOf w) qrv (.one (ro 5 1 eU bs)) (.slice a len cap) := by
 rcases h with ⟨rfl, rfl, rfl, rfl⟩ | ⟨x, rfl, h1, h2, h3, h4, h5⟩
 ·exact ⟨[], rfl, (fun x hx => (nomatch hx)), _, [], rfl, rfl, .inl ⟨⟨none, 0, rfl, fun _ => rfl⟩, rfl, rfl⟩⟩
 ·refine ⟨zs.take len, by rw [List.length_take]; omega, fun y hy => ?_, ?_⟩
  ·have := h5 y (List.mem_of_mem_take hy)
   simp [Lit.wf] at this
   have hm : IntKind.u8.min = 0 := rfl
   have hM : IntKind.u8.max = 255 := rfl
   omega
  ·by_cases hc : cap = 0
   ·have hl : len = 0 := by omega
    subst hl hc
    exact ⟨_, [], rfl, rfl, .inl ⟨⟨some x, 0, rfl, fun _ => rfl⟩, rfl, rfl⟩⟩
   ·have h0 := h4 0 (by omega)
    have ha : x.add 0 = x := by unfold Addr.add; rw [if_pos rfl]
    rw [ha] at h0
    have e := qpl h0
    have hlen : (zs.take len).length = len := by rw [List.length_take]; omega
    refine ⟨_, [], rfl, rfl, .inr ⟨x.block, x.off, cap, (zs.take len).map (Value.int .u8), ?_, ?_, h2, ?_, fun j hj => ?_, fun hp => ?_, q1h _⟩⟩
    ·rw [← e, hlen]
    ·rw [hlen]; exact h1
    ·rw [List.length_map, Nat.mul_one]
    ·rw [hlen, Nat.mul_one] at hj
     have h6 := h4 j (by omega)
     rw [e, Addr.add_lit] at h6
     show w.cell? _ = _
     rw [h6, List.getElem?_map, List.getElem?_take, if_pos hj, List.getElem?_eq_getElem (by omega)]
     simp [List.getD_eq_getElem?_getD, List.getElem?_eq_getElem (show j < zs.length by omega)]
    ·have h6 := h4 0 (by omega)
     rw [ha, e] at h6
     exact lt_of_cell h6
def qlz (bs : List Int) : CFD := ⟨6, [.one (ro 5 1 eU bs)], [], (TV.sv (.one (.lit (.bool (decide (1048576 < (bs.length : Int))))))), [], [], []⟩
theorem qt8 (bs : List Int) : Fn Tryz.prog (qlz bs) := by
 refine qm qf Tryz.func6 rfl Tryz.call6 Tryz.ntmps6 Tryz.results6 rfl rfl rfl rfl ?_
 intro X ρ0 hb_ hgl_
 dsimp only [qlz]
 try refine nrm ?_
 repeat' (refine qj ?_; first | refine st1 ?_ | (first | ((first | refine qc qf (inps := []) rfl ?_ ?_); rotate_left; (try refine nrm ?_); rotate_right) | refine ret3 ?_ | refine end3 ?_) | (refine ql rfl trivial ?_ ?_ <;> intro hc_ <;> (try simp only [qg, inB, reduceCtorEq, cds] at hc_) <;> (try (first | contradiction | (exfalso; omega)))) | refine qi (And.intro ?_ (wk3 ?_)))
 all_goals (first | refine qj ?_ | (try (focus ((try refine nrmO ?_); (repeat' (first | exact True.intro | apply And.intro)); all_goals (try (intro (hg_ : _ = true); (try simp only [qg, inB, reduceCtorEq, cds] at hg_); (repeat' (first | exact True.intro | apply And.intro)))); all_goals (first | exact ob1 | skip)))))
def qkd (l : List Bool) : CFD := ⟨157, [.one (ro 4 1 Tr.eB l)], [], .sv (.one (.hd 0)), [(0, some (.row 4 1 (l.map Tr.eB)))], [0], []⟩
theorem qxu (l : List Bool) (hl : l.length <= 1048576) : Fn Tryz.prog (qkd l) := by
 refine qm qf Tryz.func157 rfl Tryz.call157 Tryz.ntmps157 Tryz.results157 rfl rfl rfl rfl ?_
 intro X ρ0 hb_ hgl_
 dsimp only [qkd]
 try refine nrm ?_
 repeat' (refine qj ?_; first | refine st1 ?_ | (first | ((first | refine qc qf (inps := []) rfl ?_ ?_); rotate_left; (try refine nrm ?_); rotate_right) | refine ret3 ?_ | refine end3 ?_) | (refine ql rfl trivial ?_ ?_ <;> intro hc_ <;> (try simp only [qg, inB, reduceCtorEq, cds] at hc_) <;> (try (first | contradiction | (exfalso; omega)))) | refine qi (And.intro ?_ (wk3 ?_)))
 all_goals (first | refine qj ?_ | (try (focus ((try refine nrmO ?_); (repeat' (first | exact True.intro | apply And.intro)); all_goals (try (intro (hg_ : _ = true); (try simp only [qg, inB, reduceCtorEq, cds] at hg_); (repeat' (first | exact True.intro | apply And.intro)))); all_goals (first | exact ob1 | skip)))))
 refine qj1 (s := 0) rfl ?_ ?_
 ·intro hn hc
  repeat' (refine qj ?_; first | refine st1 ?_ | (first | ((first | refine qc qf (inps := []) rfl ?_ ?_); rotate_left; (try refine nrm ?_); rotate_right) | refine ret3 ?_ | refine end3 ?_) | (refine ql rfl trivial ?_ ?_ <;> intro hc_ <;> (try simp only [qg, inB, reduceCtorEq, cds] at hc_) <;> (try (first | contradiction | (exfalso; omega)))) | refine qi (And.intro ?_ (wk3 ?_)))
  all_goals (first | refine qj ?_ | (try (focus ((try refine nrmO ?_); (repeat' (first | exact True.intro | apply And.intro)); all_goals (try (intro (hg_ : _ = true); (try simp only [qg, inB, reduceCtorEq, cds] at hg_); (repeat' (first | exact True.intro | apply And.intro)))); all_goals (first | exact ob1 | skip)))))
  refine qnp (s := 2) (T := 4) (q := 1) (r := 90000) rfl rfl ?_
  repeat' (refine qj ?_; first | refine st1 ?_ | (first | ((first | refine qc qf (inps := []) rfl ?_ ?_); rotate_left; (try refine nrm ?_); rotate_right) | refine ret3 ?_ | refine end3 ?_) | (refine ql rfl trivial ?_ ?_ <;> intro hc_ <;> (try simp only [qg, inB, reduceCtorEq, cds] at hc_) <;> (try (first | contradiction | (exfalso; omega)))) | refine qi (And.intro ?_ (wk3 ?_)))
  all_goals (first | refine qj ?_ | (try (focus ((try refine nrmO ?_); (repeat' (first | exact True.intro | apply And.intro)); all_goals (try (intro (hg_ : _ = true); (try simp only [qg, inB, reduceCtorEq, cds] at hg_); (repeat' (first | exact True.intro | apply And.intro)))); all_goals (first | exact ob1 | skip)))))
  rw [List.length_eq_zero_iff.1 hn]; rfl
 ·intro ad cap hr
  repeat' (refine qj ?_; first | refine st1 ?_ | (first | ((first | refine qc qf (inps := []) rfl ?_ ?_); rotate_left; (try refine nrm ?_); rotate_right) | refine ret3 ?_ | refine end3 ?_) | (refine ql rfl trivial ?_ ?_ <;> intro hc_ <;> (try simp only [qg, inB, reduceCtorEq, cds] at hc_) <;> (try (first | contradiction | (exfalso; omega)))) | refine qi (And.intro ?_ (wk3 ?_)))
  all_goals (first | refine qj ?_ | (try (focus ((try refine nrmO ?_); (repeat' (first | exact True.intro | apply And.intro)); all_goals (try (intro (hg_ : _ = true); (try simp only [qg, inB, reduceCtorEq, cds] at hg_); (repeat' (first | exact True.intro | apply And.intro)))); all_goals (first | exact ob1 | skip)))))
  refine qmi (s := 0) hr rfl ?_
  repeat' (refine qj ?_; first | refine st1 ?_ | (first | ((first | refine qc (id := 3) qf (inps := [.elems (l.map Tr.eB)]) rfl ?_ ?_ | refine qc qf (inps := []) rfl ?_ ?_); rotate_left; (try refine nrm ?_); rotate_right) | refine ret3 ?_ | refine end3 ?_) | (refine ql rfl trivial ?_ ?_ <;> intro hc_ <;> (try simp only [qg, inB, reduceCtorEq, cds] at hc_) <;> (try (first | contradiction | (exfalso; omega)))) | refine qi (And.intro ?_ (wk3 ?_)))
  all_goals (first | refine qj ?_ | (try (focus ((try refine nrmO ?_); (repeat' (first | exact True.intro | apply And.intro)); all_goals (try (intro (hg_ : _ = true); (try simp only [qg, inB, reduceCtorEq, cds] at hg_); (repeat' (first | exact True.intro | apply And.intro)))); all_goals (first | exact ob1 | exact qca l (fun x => ⟨rfl, rfl, trivial⟩) | exact (by simp only [lns]; omega) | exact (by simp) | skip)))))
def qgn (l : List Int) : CFD := ⟨83, [.one (ro 3 1 Tr.eI l)], [], .sv (.one (.hd 0)), [(0, some (.row 3 1 (l.map Tr.eI)))], [0], []⟩
theorem qo8 (l : List Int) (hl : l.length <= 1048576) : Fn Tryz.prog (qgn l) := by
 refine qm qf Tryz.func83 rfl Tryz.call83 Tryz.ntmps83 Tryz.results83 rfl rfl rfl rfl ?_
 intro X ρ0 hb_ hgl_
 dsimp only [qgn]
 try refine nrm ?_
 repeat' (refine qj ?_; first | refine st1 ?_ | (first | ((first | refine qc qf (inps := []) rfl ?_ ?_); rotate_left; (try refine nrm ?_); rotate_right) | refine ret3 ?_ | refine end3 ?_) | (refine ql rfl trivial ?_ ?_ <;> intro hc_ <;> (try simp only [qg, inB, reduceCtorEq, cds] at hc_) <;> (try (first | contradiction | (exfalso; omega)))) | refine qi (And.intro ?_ (wk3 ?_)))
 all_goals (first | refine qj ?_ | (try (focus ((try refine nrmO ?_); (repeat' (first | exact True.intro | apply And.intro)); all_goals (try (intro (hg_ : _ = true); (try simp only [qg, inB, reduceCtorEq, cds] at hg_); (repeat' (first | exact True.intro | apply And.intro)))); all_goals (first | exact ob1 | skip)))))
 refine qj1 (s := 0) rfl ?_ ?_
 ·intro hn hc
  repeat' (refine qj ?_; first | refine st1 ?_ | (first | ((first | refine qc qf (inps := []) rfl ?_ ?_); rotate_left; (try refine nrm ?_); rotate_right) | refine ret3 ?_ | refine end3 ?_) | (refine ql rfl trivial ?_ ?_ <;> intro hc_ <;> (try simp only [qg, inB, reduceCtorEq, cds] at hc_) <;> (try (first | contradiction | (exfalso; omega)))) | refine qi (And.intro ?_ (wk3 ?_)))
  all_goals (first | refine qj ?_ | (try (focus ((try refine nrmO ?_); (repeat' (first | exact True.intro | apply And.intro)); all_goals (try (intro (hg_ : _ = true); (try simp only [qg, inB, reduceCtorEq, cds] at hg_); (repeat' (first | exact True.intro | apply And.intro)))); all_goals (first | exact ob1 | skip)))))
  refine qnp (s := 2) (T := 3) (q := 1) (r := 90000) rfl rfl ?_
  repeat' (refine qj ?_; first | refine st1 ?_ | (first | ((first | refine qc qf (inps := []) rfl ?_ ?_); rotate_left; (try refine nrm ?_); rotate_right) | refine ret3 ?_ | refine end3 ?_) | (refine ql rfl trivial ?_ ?_ <;> intro hc_ <;> (try simp only [qg, inB, reduceCtorEq, cds] at hc_) <;> (try (first | contradiction | (exfalso; omega)))) | refine qi (And.intro ?_ (wk3 ?_)))
  all_goals (first | refine qj ?_ | (try (focus ((try refine nrmO ?_); (repeat' (first | exact True.intro | apply And.intro)); all_goals (try (intro (hg_ : _ = true); (try simp only [qg, inB, reduceCtorEq, cds] at hg_); (repeat' (first | exact True.intro | apply And.intro)))); all_goals (first | exact ob1 | skip)))))
  rw [List.length_eq_zero_iff.1 hn]; rfl
 ·intro ad cap hr
  repeat' (refine qj ?_; first | refine st1 ?_ | (first | ((first | refine qc qf (inps := []) rfl ?_ ?_); rotate_left; (try refine nrm ?_); rotate_right) | refine ret3 ?_ | refine end3 ?_) | (refine ql rfl trivial ?_ ?_ <;> intro hc_ <;> (try simp only [qg, inB, reduceCtorEq, cds] at hc_) <;> (try (first | contradiction | (exfalso; omega)))) | refine qi (And.intro ?_ (wk3 ?_)))
  all_goals (first | refine qj ?_ | (try (focus ((try refine nrmO ?_); (repeat' (first | exact True.intro | apply And.intro)); all_goals (try (intro (hg_ : _ = true); (try simp only [qg, inB, reduceCtorEq, cds] at hg_); (repeat' (first | exact True.intro | apply And.intro)))); all_goals (first | exact ob1 | skip)))))
  refine qmi (s := 0) hr rfl ?_
  repeat' (refine qj ?_; first | refine st1 ?_ | (first | ((first | refine qc (id := 3) qf (inps := [.elems (l.map Tr.eI)]) rfl ?_ ?_ | refine qc qf (inps := []) rfl ?_ ?_); rotate_left; (try refine nrm ?_); rotate_right) | refine ret3 ?_ | refine end3 ?_) | (refine ql rfl trivial ?_ ?_ <;> intro hc_ <;> (try simp only [qg, inB, reduceCtorEq, cds] at hc_) <;> (try (first | contradiction | (exfalso; omega)))) | refine qi (And.intro ?_ (wk3 ?_)))
  all_goals (first | refine qj ?_ | (try (focus ((try refine nrmO ?_); (repeat' (first | exact True.intro | apply And.intro)); all_goals (try (intro (hg_ : _ = true); (try simp only [qg, inB, reduceCtorEq, cds] at hg_); (repeat' (first | exact True.intro | apply And.intro)))); all_goals (first | exact ob1 | exact qca l (fun x => ⟨rfl, rfl, trivial⟩) | exact (by simp only [lns]; omega) | exact (by simp) | skip)))))
def qgo (l : List GEntry) : CFD := ⟨121, [.one (ro 42 2 xe l)], [], .sv (.one (.hd 0)), [(0, some (.row 42 2 (l.map xe)))], [0], []⟩
theorem qo9 (l : List GEntry) (hl : l.length <= 1048576) : Fn Tryz.prog (qgo l) := by
 refine qm qf Tryz.func121 rfl Tryz.call121 Tryz.ntmps121 Tryz.results121 rfl rfl rfl rfl ?_
 intro X ρ0 hb_ hgl_
 dsimp only [qgo]
 try refine nrm ?_
 repeat' (refine qj ?_; first | refine st1 ?_ | (first | ((first | refine qc qf (inps := []) rfl ?_ ?_); rotate_left; (try refine nrm ?_); rotate_right) | refine ret3 ?_ | refine end3 ?_) | (refine ql rfl trivial ?_ ?_ <;> intro hc_ <;> (try simp only [qg, inB, reduceCtorEq, cds] at hc_) <;> (try (first | contradiction | (exfalso; omega)))) | refine qi (And.intro ?_ (wk3 ?_)))
 all_goals (first | refine qj ?_ | (try (focus ((try refine nrmO ?_); (repeat' (first | exact True.intro | apply And.intro)); all_goals (try (intro (hg_ : _ = true); (try simp only [qg, inB, reduceCtorEq, cds] at hg_); (repeat' (first | exact True.intro | apply And.intro)))); all_goals (first | exact ob1 | skip)))))
 refine qj1 (s := 0) rfl ?_ ?_
 ·intro hn hc
  repeat' (refine qj ?_; first | refine st1 ?_ | (first | ((first | refine qc qf (inps := []) rfl ?_ ?_); rotate_left; (try refine nrm ?_); rotate_right) | refine ret3 ?_ | refine end3 ?_) | (refine ql rfl trivial ?_ ?_ <;> intro hc_ <;> (try simp only [qg, inB, reduceCtorEq, cds] at hc_) <;> (try (first | contradiction | (exfalso; omega)))) | refine qi (And.intro ?_ (wk3 ?_)))
  all_goals (first | refine qj ?_ | (try (focus ((try refine nrmO ?_); (repeat' (first | exact True.intro | apply And.intro)); all_goals (try (intro (hg_ : _ = true); (try simp only [qg, inB, reduceCtorEq, cds] at hg_); (repeat' (first | exact True.intro | apply And.intro)))); all_goals (first | exact ob1 | skip)))))
  refine qnp (s := 2) (T := 42) (q := 2) (r := 90000) rfl rfl ?_
  repeat' (refine qj ?_; first | refine st1 ?_ | (first | ((first | refine qc qf (inps := []) rfl ?_ ?_); rotate_left; (try refine nrm ?_); rotate_right) | refine ret3 ?_ | refine end3 ?_) | (refine ql rfl trivial ?_ ?_ <;> intro hc_ <;> (try simp only [qg, inB, reduceCtorEq, cds] at hc_) <;> (try (first | contradiction | (exfalso; omega)))) | refine qi (And.intro ?_ (wk3 ?_)))
  all_goals (first | refine qj ?_ | (try (focus ((try refine nrmO ?_); (repeat' (first | exact True.intro | apply And.intro)); all_goals (try (intro (hg_ : _ = true); (try simp only [qg, inB, reduceCtorEq, cds] at hg_); (repeat' (first | exact True.intro | apply And.intro)))); all_goals (first | exact ob1 | skip)))))
  rw [List.length_eq_zero_iff.1 hn]; rfl
 ·intro ad cap hr
  repeat' (refine qj ?_; first | refine st1 ?_ | (first | ((first | refine qc qf (inps := []) rfl ?_ ?_); rotate_left; (try refine nrm ?_); rotate_right) | refine ret3 ?_ | refine end3 ?_) | (refine ql rfl trivial ?_ ?_ <;> intro hc_ <;> (try simp only [qg, inB, reduceCtorEq, cds] at hc_) <;> (try (first | contradiction | (exfalso; omega)))) | refine qi (And.intro ?_ (wk3 ?_)))
  all_goals (first | refine qj ?_ | (try (focus ((try refine nrmO ?_); (repeat' (first | exact True.intro | apply And.intro)); all_goals (try (intro (hg_ : _ = true); (try simp only [qg, inB, reduceCtorEq, cds] at hg_); (repeat' (first | exact True.intro | apply And.intro)))); all_goals (first | exact ob1 | skip)))))
  refine qmi (s := 0) hr rfl ?_
  repeat' (refine qj ?_; first | refine st1 ?_ | (first | ((first | refine qc (id := 3) qf (inps := [.elems (l.map xe)]) rfl ?_ ?_ | refine qc qf (inps := []) rfl ?_ ?_); rotate_left; (try refine nrm ?_); rotate_right) | refine ret3 ?_ | refine end3 ?_) | (refine ql rfl trivial ?_ ?_ <;> intro hc_ <;> (try simp only [qg, inB, reduceCtorEq, cds] at hc_) <;> (try (first | contradiction | (exfalso; omega)))) | refine qi (And.intro ?_ (wk3 ?_)))
  all_goals (first | refine qj ?_ | (try (focus ((try refine nrmO ?_); (repeat' (first | exact True.intro | apply And.intro)); all_goals (try (intro (hg_ : _ = true); (try simp only [qg, inB, reduceCtorEq, cds] at hg_); (repeat' (first | exact True.intro | apply And.intro)))); all_goals (first | exact ob1 | exact qca l (fun x => ⟨rfl, rfl, rfl, trivial⟩) | exact (by simp only [lns]; omega) | exact (by simp) | skip)))))
def ql0 (v : Int) : CFD := ⟨134, [(SV.one (.lit (.int .i64 (v))))], [], (TV.sv (.one (.lit (.bool (inB v 0 999))))), [], [], []⟩
theorem qt9 (v : Int) : Fn Tryz.prog (ql0 v) := by
 refine qm qf Tryz.func134 rfl Tryz.call134 Tryz.ntmps134 Tryz.results134 rfl rfl rfl rfl ?_
 intro X ρ0 hb_ hgl_
 dsimp only [ql0]
 try refine nrm ?_
 repeat' (refine qj ?_; first | refine st1 ?_ | (first | ((first | refine qc qf (inps := []) rfl ?_ ?_); rotate_left; (try refine nrm ?_); rotate_right) | refine ret3 ?_ | refine end3 ?_) | (refine ql rfl trivial ?_ ?_ <;> intro hc_ <;> (try simp only [qg, inB, reduceCtorEq, cds] at hc_) <;> (try (first | contradiction | (exfalso; omega)))) | refine qi (And.intro ?_ (wk3 ?_)))
 all_goals (first | refine qj ?_ | (try (focus ((try refine nrmO ?_); (repeat' (first | exact True.intro | apply And.intro)); all_goals (try (intro (hg_ : _ = true); (try simp only [qg, inB, reduceCtorEq, cds] at hg_); (repeat' (first | exact True.intro | apply And.intro)))); all_goals (first | exact ob1 | skip)))))
 exact congrArg Value.bool (by unfold inB; cases h : decide (v ≥ 0) <;> simp_all)
def qio (r : List Int) (u : Bool) : CFD := ⟨130, [.one (ro 3 1 Tr.eI r), (SV.one (.lit (.bool (u))))], [], (TV.sv (.one (.lit (.bool (decide (qd5 u r)))))), [], [], []⟩
theorem qua (r : List Int) (u : Bool) (hl : r.length <= 1048576) : Fn Tryz.prog (qio r u) := by
 refine qm qf Tryz.func130 rfl Tryz.call130 Tryz.ntmps130 Tryz.results130 rfl rfl rfl rfl ?_
 intro X ρ0 hb_ hgl_
 dsimp only [qio]
 try refine nrm ?_
 repeat' (refine qj ?_; first | refine st1 ?_ | (first | ((first | refine qc qf (inps := []) rfl ?_ ?_); rotate_left; (try refine nrm ?_); rotate_right) | refine ret3 ?_ | refine end3 ?_) | (refine ql rfl trivial ?_ ?_ <;> intro hc_ <;> (try simp only [qg, inB, reduceCtorEq, cds] at hc_) <;> (try (first | contradiction | (exfalso; omega)))) | refine qi (And.intro ?_ (wk3 ?_)))
 all_goals (first | refine qj ?_ | (try (focus ((try refine nrmO ?_); (repeat' (first | exact True.intro | apply And.intro)); all_goals (try (intro (hg_ : _ = true); (try simp only [qg, inB, reduceCtorEq, cds] at hg_); (repeat' (first | exact True.intro | apply And.intro)))); all_goals (first | exact ob1 | skip)))))
 ·exact bf fun h => hc_ (by rw [h.1]; rfl)
 have hlen := hc_
 refine qaf 7251 (by dsimp only [qay] <;> exact rfl) ?_
 refine qai (r.length) (fun i => ∀ v ∈ r.take i, okV u v) (fun i => [(12, (TV.sv (.one (.lit (.int .i64 (i))))))]) (fun i => []) ?_ ?_ ?_
 rotate_left
 ·first | trivial | simp
 (dsimp only [zx, yx, Int.toNat_natCast, ro, Nat.reduceAdd, Nat.reduceMul, Nat.zero_add, List.map, putT, app, zn, gOb, argT, keys, yg, dropped, gAnd, wB, rnT, rnS, rnC, rnCs, rnSs, rnM, rnB, rnN, rn, lk, St.over, ded, delL, jo, menT, jw, menS, jv, menC, hasN, resT, SV.cells]; refine wk3 ?_; (focus ((try refine nrmO ?_); (repeat' (first | exact True.intro | apply And.intro)); all_goals (try (intro (hg_ : _ = true); (try simp only [qg, inB, reduceCtorEq, cds] at hg_); (repeat' (first | exact True.intro | apply And.intro)))); all_goals (first | exact ob1 | exact rfl | skip))))
 rotate_right
 intro i hi_ hiI_
 dsimp only [zx, yx, Int.toNat_natCast, ro, Nat.reduceAdd, Nat.reduceMul, Nat.zero_add, List.map, putT, app, zn, gOb, argT, keys, yg, dropped, gAnd, wB, rnT, rnS, rnC, rnCs, rnSs, rnM, rnB, rnN, rn, lk, St.over, ded, delL, jo, menT, jw, menS, jv, menC, hasN, resT, SV.cells]
 repeat' (refine qj ?_; first | refine st1 ?_ | (first | ((first | refine qc (id := 5) qf (inps := [.elem (Tr.eI (r.getD i 0))]) rfl ?_ ?_ | refine qc (id := 6) qf (inps := [.call (ql0 (r.getD i 0))]) rfl ?_ ?_ | refine qc qf (inps := []) rfl ?_ ?_); rotate_left; (try dsimp only [ql0]); (try refine nrm ?_); rotate_right) | refine ret3 ?_ | refine end3 ?_) | (refine ql rfl trivial ?_ ?_ <;> intro hc_ <;> (try simp only [qg, inB, reduceCtorEq, cds] at hc_) <;> (try (first | contradiction | (exfalso; omega)))) | refine qi (And.intro ?_ (wk3 ?_)))
 all_goals (first | refine qj ?_ | (try (focus ((try refine nrmO ?_); (repeat' (first | exact True.intro | apply And.intro)); all_goals (try (intro (hg_ : _ = true); (try simp only [qg, inB, reduceCtorEq, cds] at hg_); (repeat' (first | exact True.intro | apply And.intro)))); all_goals (first | exact ob1 | exact qt9 _ | skip)))))
 ·refine bf fun h => ?_
  have := h.2 _ (getD_in (l := r) (i := i) (d := 0) (by omega))
  rcases hc_ with hc_ | ⟨h1, h2⟩
  ·have := this.1; omega
  ·rcases this.2 with h3 | h3
   ·rw [h1] at h3; cases h3
   ·exact h2 h3
 ·exact qcp hiI_ (by omega) hc_
 ·exact bt ⟨by omega, qcq hiI_ (by omega)⟩
theorem qsk {α β : Type} {l : List α} {m : List β} {i : Nat} {a : α} {b : β} (h1 : i < l.length) (h2 : i < m.length) : (l.zip m).getD i (a, b) = (l.getD i a, m.getD i b) := by
 have := qf7 (getD_at (x := a) h1) (getD_at (x := b) h2)
 rw [List.getD_eq_getElem?_getD, this]
 rfl
def qdw (f : GFrames) : CFD := ⟨91, [.agg [ro 33 1 xw f.Cells, ro 4 1 Tr.eB f.Used]], [], (TV.sv (.one (.lit (.bool (qdu f))))), [], [], []⟩
theorem qke (f : GFrames) (hl : f.Cells.length <= 1048576) (hu : f.Used.length <= 1048576) (hc : ∀ r ∈ f.Cells, r.length <= 1048576) : Fn Tryz.prog (qdw f) := by
 refine qm qf Tryz.func91 rfl Tryz.call91 Tryz.ntmps91 Tryz.results91 rfl rfl rfl rfl ?_
 intro X ρ0 hb_ hgl_
 dsimp only [qdw]
 try refine nrm ?_
 repeat' (refine qj ?_; first | refine st1 ?_ | (first | ((first | refine qc qf (inps := []) rfl ?_ ?_); rotate_left; (try refine nrm ?_); rotate_right) | refine ret3 ?_ | refine end3 ?_) | (refine ql rfl trivial ?_ ?_ <;> intro hc_ <;> (try simp only [qg, inB, reduceCtorEq, cds] at hc_) <;> (try (first | contradiction | (exfalso; omega)))) | refine qi (And.intro ?_ (wk3 ?_)))
 all_goals (first | refine qj ?_ | (try (focus ((try refine nrmO ?_); (repeat' (first | exact True.intro | apply And.intro)); all_goals (try (intro (hg_ : _ = true); (try simp only [qg, inB, reduceCtorEq, cds] at hg_); (repeat' (first | exact True.intro | apply And.intro)))); all_goals (first | exact ob1 | skip)))))
 ·exact bf fun h => by have := h.1; have := h.2.1; omega
 have hlen := hc_
 refine qaf 234881055 (by dsimp only [qay] <;> exact rfl) ?_
 refine qai (f.Cells.length) (fun i => ∀ p ∈ (f.Cells.zip f.Used).take i, qd5 p.2 p.1) (fun i => [(27, (TV.sv (.one (.lit (.int .i64 (i))))))]) (fun i => []) ?_ ?_ ?_
 rotate_left
 ·first | trivial | simp
 (dsimp only [zx, yx, Int.toNat_natCast, ro, Nat.reduceAdd, Nat.reduceMul, Nat.zero_add, List.map, putT, app, zn, gOb, argT, keys, yg, dropped, gAnd, wB, rnT, rnS, rnC, rnCs, rnSs, rnM, rnB, rnN, rn, lk, St.over, ded, delL, jo, menT, jw, menS, jv, menC, hasN, resT, SV.cells]; refine wk3 ?_; (focus ((try refine nrmO ?_); (repeat' (first | exact True.intro | apply And.intro)); all_goals (try (intro (hg_ : _ = true); (try simp only [qg, inB, reduceCtorEq, cds] at hg_); (repeat' (first | exact True.intro | apply And.intro)))); all_goals (first | exact ob1 | exact rfl | skip))))
 rotate_right
 intro i hi_ hiI_
 dsimp only [zx, yx, Int.toNat_natCast, ro, Nat.reduceAdd, Nat.reduceMul, Nat.zero_add, List.map, putT, app, zn, gOb, argT, keys, yg, dropped, gAnd, wB, rnT, rnS, rnC, rnCs, rnSs, rnM, rnB, rnN, rn, lk, St.over, ded, delL, jo, menT, jw, menS, jv, menC, hasN, resT, SV.cells]
 repeat' (refine qj ?_; first | refine st1 ?_ | (first | ((first | refine qc (id := 5) qf (inps := [.elem (xw (f.Cells.getD i []))]) rfl ?_ ?_ | refine qc (id := 6) qf (inps := [.elem (Tr.eB (f.Used.getD i false)), .call (qio (f.Cells.getD i []) (f.Used.getD i false))]) rfl ?_ ?_ | refine qc qf (inps := []) rfl ?_ ?_); rotate_left; (try dsimp only [qio]); (try refine nrm ?_); rotate_right) | refine ret3 ?_ | refine end3 ?_) | (refine ql rfl trivial ?_ ?_ <;> intro hc_ <;> (try simp only [qg, inB, reduceCtorEq, cds] at hc_) <;> (try (first | contradiction | (exfalso; omega)))) | refine qi (And.intro ?_ (wk3 ?_)))
 all_goals (first | refine qj ?_ | (try (focus ((try refine nrmO ?_); (repeat' (first | exact True.intro | apply And.intro)); all_goals (try (intro (hg_ : _ = true); (try simp only [qg, inB, reduceCtorEq, cds] at hg_); (repeat' (first | exact True.intro | apply And.intro)))); all_goals (first | exact ob1 | exact qua _ _ (hc _ (getD_in (by omega))) | skip)))))
 ·refine bf fun h => hc_ ?_
  have := h.2.2 _ (getD_in (l := f.Cells.zip f.Used) (i := i) (d := ([], false)) (by rw [List.length_zip]; omega))
  rwa [qsk (by omega) (by omega)] at this
 ·exact qcp (d := ([], false)) hiI_ (by rw [List.length_zip]; omega) (by rw [qsk (by omega) (by omega)]; exact hc_)
 ·exact bt ⟨by omega, by omega, qcq hiI_ (by rw [List.length_zip]; omega)⟩
def qe2 (f : GFrames) : CFD := ⟨120, [.agg [ro 33 1 xw f.Cells, ro 4 1 Tr.eB f.Used]], [], .sv (.agg [.hd 0, .hd 1]),
 [(0, some (.row 33 1 (f.Cells.map xw))), (1, some (.row 4 1 (f.Used.map Tr.eB)))], [0, 1], []⟩
theorem qld (f : GFrames) (hl : f.Cells.length <= 1048576) (hu : f.Used.length <= 1048576) (hc : ∀ r ∈ f.Cells, r.length <= 1048576) : Fn Tryz.prog (qe2 f) := by
 refine qm qf Tryz.func120 rfl Tryz.call120 Tryz.ntmps120 Tryz.results120 rfl rfl rfl rfl ?_
 intro X ρ0 hb_ hgl_
 dsimp only [qe2]
 try refine nrm ?_
 repeat' (refine qj ?_; first | refine st1 ?_ | (first | ((first | refine qc qf (inps := []) rfl ?_ ?_); rotate_left; (try refine nrm ?_); rotate_right) | refine ret3 ?_ | refine end3 ?_) | (refine ql rfl trivial ?_ ?_ <;> intro hc_ <;> (try simp only [qg, inB, reduceCtorEq, cds] at hc_) <;> (try (first | contradiction | (exfalso; omega)))) | refine qi (And.intro ?_ (wk3 ?_)))
 all_goals (first | refine qj ?_ | (try (focus ((try refine nrmO ?_); (repeat' (first | exact True.intro | apply And.intro)); all_goals (try (intro (hg_ : _ = true); (try simp only [qg, inB, reduceCtorEq, cds] at hg_); (repeat' (first | exact True.intro | apply And.intro)))); all_goals (first | exact ob1 | skip)))))
 refine qaf 3103 (by dsimp only [qay] <;> exact rfl) ?_
 refine qai (f.Cells.length) (fun i => True) (fun i => [(11, (TV.sv (.one (.lit (.int .i64 (i)))))), (3, (TV.sv (.one (.hd 8))))]) (fun i => [(8, some (.row 33 1 ((f.Cells.take i).map xw ++ List.replicate (f.Cells.length - i) (dOf [.slice none 0 0]))))]) ?_ ?_ ?_
 rotate_left
 ·first | trivial | simp
 (dsimp only [zx, yx, Int.toNat_natCast, ro, Nat.reduceAdd, Nat.reduceMul, Nat.zero_add, List.map, putT, app, zn, gOb, argT, keys, yg, dropped, gAnd, wB, rnT, rnS, rnC, rnCs, rnSs, rnM, rnB, rnN, rn, lk, St.over, ded, delL, jo, menT, jw, menS, jv, menC, hasN, resT, SV.cells]; refine wk3 ?_; (focus ((try refine nrmO ?_); (repeat' (first | exact True.intro | apply And.intro)); all_goals (try (intro (hg_ : _ = true); (try simp only [qg, inB, reduceCtorEq, cds] at hg_); (repeat' (first | exact True.intro | apply And.intro)))); all_goals (first | exact ob1 | exact rfl | skip))))
 rotate_right
 intro i hi_ hiI_
 dsimp only [zx, yx, Int.toNat_natCast, ro, Nat.reduceAdd, Nat.reduceMul, Nat.zero_add, List.map, putT, app, zn, gOb, argT, keys, yg, dropped, gAnd, wB, rnT, rnS, rnC, rnCs, rnSs, rnM, rnB, rnN, rn, lk, St.over, ded, delL, jo, menT, jw, menS, jv, menC, hasN, resT, SV.cells]
 repeat' (refine qj ?_; first | refine st1 ?_ | (first | ((first | refine qc (id := 5) qf (inps := [.elem (xw (f.Cells.getD i [])), .elem (dOf [.slice none 0 0])]) rfl ?_ ?_ | refine qc qf (inps := []) rfl ?_ ?_); rotate_left; (try refine nrm ?_); rotate_right) | refine ret3 ?_ | refine end3 ?_) | (refine ql rfl trivial ?_ ?_ <;> intro hc_ <;> (try simp only [qg, inB, reduceCtorEq, cds] at hc_) <;> (try (first | contradiction | (exfalso; omega)))) | refine qi (And.intro ?_ (wk3 ?_)))
 all_goals (first | refine qj ?_ | (try (focus ((try refine nrmO ?_); (repeat' (first | exact True.intro | apply And.intro)); all_goals (try (intro (hg_ : _ = true); (try simp only [qg, inB, reduceCtorEq, cds] at hg_); (repeat' (first | exact True.intro | apply And.intro)))); all_goals (first | exact ob1 | skip)))))
 ·have := hc _ (getD_in (l := f.Cells) (i := i) (d := []) (by omega)); simp only [List.length_map]; omega
 ·rw [Int.toNat_natCast]; exact quv _ _ _ (by omega)
 ·have hlen : i < ((f.Cells.take i).map xw ++ List.replicate (f.Cells.length - i) (dOf [.slice none 0 0])).length := by rw [qqx _ _ _ (by omega)]; omega
  refine q7x 8 (((f.Cells.take i).map xw ++ List.replicate (f.Cells.length - i) (dOf [.slice none 0 0])).set i (xw (List.replicate (f.Cells.getD i []).length 0))) rfl ((congrArg (List.set _ i) (by show D.row _ _ _ _ _ = D.row _ _ _ _ _; rw [List.map_replicate, List.length_map]; rfl))) ?_
  refine qj3 8 i 0 90001 90002 (d := xw (List.replicate (f.Cells.getD i []).length 0)) ((List.replicate (f.Cells.getD i []).length 0).map eI) rfl ?_ rfl ?_ rfl rfl rfl ?_
  ·first | exact qdo (by omega) | assumption | exact qe6 (by (try simp only [List.length_map, List.length_set]); omega) | (rw [List.getElem?_set_ne (by omega)]; exact qdo (by omega))
  ·exact ⟨rfl, rfl, by intro e he; simp only [List.mem_map] at he; obtain ⟨_, _, rfl⟩ := he; rfl⟩
  intro A_90001 n_90001 c_90001
  try refine nrm ?_
  refine qak (id := 6) (inps := [ .nest (.lit (Value.slice A_90001 n_90001 c_90001) .nil) [(0, 90002)], .elem (xw (f.Cells.getD i [])), .elems ((f.Cells.getD i []).map eI)]) qf (by kernel_rfl) rfl rfl (by kernel_rfl) rfl rfl rfl rfl ?_ ?_
  rotate_left
  (try refine nrm ?_)
  refine qh0 8 i 0 90001 90002 rfl rfl rfl (qe6 ?_) rfl rfl rfl ?_
  ·(simp only [List.length_map, List.length_set]; omega)
  try refine nrm ?_
  repeat' (refine qj ?_; first | refine st1 ?_ | (first | ((first | refine qc qf (inps := []) rfl ?_ ?_); rotate_left; (try refine nrm ?_); rotate_right) | refine ret3 ?_ | refine end3 ?_) | (refine ql rfl trivial ?_ ?_ <;> intro hc_ <;> (try simp only [qg, inB, reduceCtorEq, cds] at hc_) <;> (try (first | contradiction | (exfalso; omega)))) | refine qi (And.intro ?_ (wk3 ?_)))
  all_goals (first | refine qj ?_ | (try (focus ((try refine nrmO ?_); (repeat' (first | exact True.intro | apply And.intro)); all_goals (try (intro (hg_ : _ = true); (try simp only [qg, inB, reduceCtorEq, cds] at hg_); (repeat' (first | exact True.intro | apply And.intro)))); all_goals (first | exact ob1 | skip)))))
  all_goals (try (focus ((try refine nrmO ?_); (repeat' (first | exact True.intro | apply And.intro)); all_goals (try (intro (hg_ : _ = true); (try simp only [qg, inB, reduceCtorEq, cds] at hg_); (repeat' (first | exact True.intro | apply And.intro)))); all_goals (first | exact ob1 | exact qca (f.Cells.getD i []) (fun x => ⟨rfl, rfl, trivial⟩) | exact (fun d hd => by obtain ⟨_, _, rfl⟩ := List.mem_map.1 hd; exact ⟨rfl, trivial⟩) | skip))))
  ·rw [List.set_set, List.set_set]; exact qxe xw f.Cells _ [] (by omega)
  ·rw [List.length_map, List.length_map, List.length_replicate]
 ·skip
  repeat' (refine qj ?_; first | refine st1 ?_ | (first | ((first | refine qc (id := 8) qf (inps := [.call (qkd f.Used)]) rfl ?_ ?_ | refine qc qf (inps := []) rfl ?_ ?_); rotate_left; (try dsimp only [qkd]); (try refine nrm ?_); rotate_right) | refine ret3 ?_ | refine end3 ?_) | (refine ql rfl trivial ?_ ?_ <;> intro hc_ <;> (try simp only [qg, inB, reduceCtorEq, cds] at hc_) <;> (try (first | contradiction | (exfalso; omega)))) | refine qi (And.intro ?_ (wk3 ?_)))
  all_goals (first | refine qj ?_ | (try (focus ((try refine nrmO ?_); (repeat' (first | exact True.intro | apply And.intro)); all_goals (try (intro (hg_ : _ = true); (try simp only [qg, inB, reduceCtorEq, cds] at hg_); (repeat' (first | exact True.intro | apply And.intro)))); all_goals (first | exact ob1 | exact qxu _ hu | skip)))))
  exact q0p xw f.Cells _ (by omega)
def y7 (md fr : Int) : CFD := ⟨124, [.agg [(CV.lit (.int .i64 (md))), (CV.lit (.int .i64 (fr)))]], [], (TV.sv (.one (.lit (.bool (md != 0))))), [], [], []⟩
theorem qa3 (md fr : Int) : Fn Tryz.prog (y7 md fr) := by
 refine qm qf Tryz.func124 rfl Tryz.call124 Tryz.ntmps124 Tryz.results124 rfl rfl rfl rfl ?_
 intro X ρ0 hb_ hgl_
 dsimp only [y7]
 try refine nrm ?_
 repeat' (refine qj ?_; first | refine st1 ?_ | (first | ((first | refine qc qf (inps := []) rfl ?_ ?_); rotate_left; (try refine nrm ?_); rotate_right) | refine ret3 ?_ | refine end3 ?_) | (refine ql rfl trivial ?_ ?_ <;> intro hc_ <;> (try simp only [qg, inB, reduceCtorEq, cds] at hc_) <;> (try (first | contradiction | (exfalso; omega)))) | refine qi (And.intro ?_ (wk3 ?_)))
 all_goals (first | refine qj ?_ | (try (focus ((try refine nrmO ?_); (repeat' (first | exact True.intro | apply And.intro)); all_goals (try (intro (hg_ : _ = true); (try simp only [qg, inB, reduceCtorEq, cds] at hg_); (repeat' (first | exact True.intro | apply And.intro)))); all_goals (first | exact ob1 | skip)))))
def okA (md fr : Int) : Prop := (md = 0 /\ fr = 0) ∨ ((md = 1 ∨ md = 2) /\ 0 <= fr)
instance (md fr : Int) : Decidable (okA md fr) := by unfold okA; infer_instance
def qfe (md fr : Int) : CFD := ⟨131, [.agg [(CV.lit (.int .i64 (md))), (CV.lit (.int .i64 (fr)))]], [], (TV.sv (.one (.lit (.bool (decide (okA md fr)))))), [], [], []⟩
theorem qn6 (md fr : Int) : Fn Tryz.prog (qfe md fr) := by
 refine qm qf Tryz.func131 rfl Tryz.call131 Tryz.ntmps131 Tryz.results131 rfl rfl rfl rfl ?_
 intro X ρ0 hb_ hgl_
 dsimp only [qfe]
 try refine nrm ?_
 repeat' (refine qj ?_; first | refine st1 ?_ | (first | ((first | refine qc (id := 1) qf (inps := [.call (y7 md fr)]) rfl ?_ ?_ | refine qc qf (inps := []) rfl ?_ ?_); rotate_left; (try dsimp only [y7]); (try refine nrm ?_); rotate_right) | refine ret3 ?_ | refine end3 ?_) | (refine ql rfl trivial ?_ ?_ <;> intro hc_ <;> (try simp only [qg, inB, reduceCtorEq, cds] at hc_) <;> (try (first | contradiction | (exfalso; omega)))) | refine qi (And.intro ?_ (wk3 ?_)))
 all_goals (first | refine qj ?_ | (try (focus ((try refine nrmO ?_); (repeat' (first | exact True.intro | apply And.intro)); all_goals (try (intro (hg_ : _ = true); (try simp only [qg, inB, reduceCtorEq, cds] at hg_); (repeat' (first | exact True.intro | apply And.intro)))); all_goals (first | exact ob1 | exact qa3 _ _ | skip)))))
 ·refine congrArg Value.bool ?_
  subst hc_
  by_cases h : fr = 0
  ·subst h; rfl
  ·simp [okA, h]
 ·refine congrArg Value.bool ?_
  simp only [okA, qnr]
  rw [Bool.eq_iff_iff]
  split <;> split <;> simp_all <;> omega
def qg6 (t : GTable) (frames : Int) : CFD := ⟨92, [.agg [ro 42 2 xe t.Entries], (SV.one (.lit (.int .i64 (frames))))], [], (TV.sv (.one (.lit (.bool (qbw t frames))))), [], [], []⟩
theorem qsl (t : GTable) (frames : Int) (hl : t.Entries.length <= 1048576) : Fn Tryz.prog (qg6 t frames) := by
 refine qm qf Tryz.func92 rfl Tryz.call92 Tryz.ntmps92 Tryz.results92 rfl rfl rfl rfl ?_
 intro X ρ0 hb_ hgl_
 dsimp only [qg6]
 try refine nrm ?_
 repeat' (refine qj ?_; first | refine st1 ?_ | (first | ((first | refine qc qf (inps := []) rfl ?_ ?_); rotate_left; (try refine nrm ?_); rotate_right) | refine ret3 ?_ | refine end3 ?_) | (refine ql rfl trivial ?_ ?_ <;> intro hc_ <;> (try simp only [qg, inB, reduceCtorEq, cds] at hc_) <;> (try (first | contradiction | (exfalso; omega)))) | refine qi (And.intro ?_ (wk3 ?_)))
 all_goals (first | refine qj ?_ | (try (focus ((try refine nrmO ?_); (repeat' (first | exact True.intro | apply And.intro)); all_goals (try (intro (hg_ : _ = true); (try simp only [qg, inB, reduceCtorEq, cds] at hg_); (repeat' (first | exact True.intro | apply And.intro)))); all_goals (first | exact ob1 | skip)))))
 ·exact bf fun h => by have := h.2; omega
 have hlen := hc_
 refine qaf 1835095 (by dsimp only [qay] <;> exact rfl) ?_
 refine qai (t.Entries.length) (fun i => ∀ e ∈ t.Entries.take i, okE frames e) (fun i => [(20, (TV.sv (.one (.lit (.int .i64 (i))))))]) (fun i => []) ?_ ?_ ?_
 rotate_left
 ·first | trivial | simp
 (dsimp only [zx, yx, Int.toNat_natCast, ro, Nat.reduceAdd, Nat.reduceMul, Nat.zero_add, List.map, putT, app, zn, gOb, argT, keys, yg, dropped, gAnd, wB, rnT, rnS, rnC, rnCs, rnSs, rnM, rnB, rnN, rn, lk, St.over, ded, delL, jo, menT, jw, menS, jv, menC, hasN, resT, SV.cells]; refine wk3 ?_; (focus ((try refine nrmO ?_); (repeat' (first | exact True.intro | apply And.intro)); all_goals (try (intro (hg_ : _ = true); (try simp only [qg, inB, reduceCtorEq, cds] at hg_); (repeat' (first | exact True.intro | apply And.intro)))); all_goals (first | exact ob1 | exact rfl | skip))))
 rotate_right
 intro i hi_ hiI_
 dsimp only [zx, yx, Int.toNat_natCast, ro, Nat.reduceAdd, Nat.reduceMul, Nat.zero_add, List.map, putT, app, zn, gOb, argT, keys, yg, dropped, gAnd, wB, rnT, rnS, rnC, rnCs, rnSs, rnM, rnB, rnN, rn, lk, St.over, ded, delL, jo, menT, jw, menS, jv, menC, hasN, resT, SV.cells]
 repeat' (refine qj ?_; first | refine st1 ?_ | (first | ((first | refine qc (id := 5) qf (inps := [.elem (xe (t.Entries.getD i ⟨0, 0⟩))]) rfl ?_ ?_ | refine qc (id := 6) qf (inps := [.call (qfe (t.Entries.getD i ⟨0, 0⟩).Mode (t.Entries.getD i ⟨0, 0⟩).Frame), .call (y7 (t.Entries.getD i ⟨0, 0⟩).Mode (t.Entries.getD i ⟨0, 0⟩).Frame)]) rfl ?_ ?_ | refine qc qf (inps := []) rfl ?_ ?_); rotate_left; (try dsimp only [qfe, y7]); (try refine nrm ?_); rotate_right) | refine ret3 ?_ | refine end3 ?_) | (refine ql rfl trivial ?_ ?_ <;> intro hc_ <;> (try simp only [qg, inB, reduceCtorEq, cds] at hc_) <;> (try (first | contradiction | (exfalso; omega)))) | refine qi (And.intro ?_ (wk3 ?_)))
 all_goals (first | refine qj ?_ | (try (focus ((try refine nrmO ?_); (repeat' (first | exact True.intro | apply And.intro)); all_goals (try (intro (hg_ : _ = true); (try simp only [qg, inB, reduceCtorEq, cds] at hg_); (repeat' (first | exact True.intro | apply And.intro)))); all_goals (first | exact ob1 | exact qn6 _ _ | exact qa3 _ _ | skip)))))
 ·refine bf fun h => ?_
  have := h.1 _ (getD_in (l := t.Entries) (i := i) (d := ⟨0, 0⟩) (by omega))
  unfold okE at this
  unfold okA at hc_
  omega
 ·refine qcp (d := ⟨0, 0⟩) hiI_ (by omega) ?_
  unfold okE
  unfold okA at hc_
  omega
 ·exact bt ⟨qcq hiI_ (by omega), by omega, by omega⟩
def qcz (t : GTable) (page : Int) : CFD := ⟨158, [.agg [ro 42 2 xe t.Entries], (SV.one (.lit (.int .i64 (page))))], [], (TV.sv (.one (.lit (.bool (decide (0 <= page /\ page < (t.Entries.length : Int))))))), [], [], []⟩
theorem qi0 (t : GTable) (page : Int) (hl : t.Entries.length <= 1048576) : Fn Tryz.prog (qcz t page) := by
 refine qm qf Tryz.func158 rfl Tryz.call158 Tryz.ntmps158 Tryz.results158 rfl rfl rfl rfl ?_
 intro X ρ0 hb_ hgl_
 dsimp only [qcz]
 try refine nrm ?_
 repeat' (refine qj ?_; first | refine st1 ?_ | (first | ((first | refine qc qf (inps := []) rfl ?_ ?_); rotate_left; (try refine nrm ?_); rotate_right) | refine ret3 ?_ | refine end3 ?_) | (refine ql rfl trivial ?_ ?_ <;> intro hc_ <;> (try simp only [qg, inB, reduceCtorEq, cds] at hc_) <;> (try (first | contradiction | (exfalso; omega)))) | refine qi (And.intro ?_ (wk3 ?_)))
 all_goals (first | refine qj ?_ | (try (focus ((try refine nrmO ?_); (repeat' (first | exact True.intro | apply And.intro)); all_goals (try (intro (hg_ : _ = true); (try simp only [qg, inB, reduceCtorEq, cds] at hg_); (repeat' (first | exact True.intro | apply And.intro)))); all_goals (first | exact ob1 | skip)))))
 refine congrArg Value.bool ?_
 rw [qnr, Bool.eq_iff_iff]
 split <;> simp_all <;> omega
def yj (t : GTable) (page : Int) : CFD := ⟨122, [.agg [ro 42 2 xe t.Entries], (SV.one (.lit (.int .i64 (page))))], [], .sv (.agg [(CV.lit (.int .i64 ((qh t page).Mode))), (CV.lit (.int .i64 ((qh t page).Frame)))]), [], [], []⟩
theorem qae (t : GTable) (page : Int) (hl : t.Entries.length <= 1048576) : Fn Tryz.prog (yj t page) := by
 refine qm qf Tryz.func122 rfl Tryz.call122 Tryz.ntmps122 Tryz.results122 rfl rfl rfl rfl ?_
 intro X ρ0 hb_ hgl_
 dsimp only [yj]
 try refine nrm ?_
 repeat' (refine qj ?_; first | refine st1 ?_ | (first | ((first | refine qc (id := 1) qf (inps := [.call (qcz t page)]) rfl ?_ ?_ | refine qc (id := 3) qf (inps := [.elem (xe (t.Entries.getD page.toNat ⟨0, 0⟩))]) rfl ?_ ?_ | refine qc qf (inps := []) rfl ?_ ?_); rotate_left; (try dsimp only [qcz]); (try refine nrm ?_); rotate_right) | refine ret3 ?_ | refine end3 ?_) | (refine ql rfl trivial ?_ ?_ <;> intro hc_ <;> (try simp only [qg, inB, reduceCtorEq, cds] at hc_) <;> (try (first | contradiction | (exfalso; omega)))) | refine qi (And.intro ?_ (wk3 ?_)))
 all_goals (first | refine qj ?_ | (try (focus ((try refine nrmO ?_); (repeat' (first | exact True.intro | apply And.intro)); all_goals (try (intro (hg_ : _ = true); (try simp only [qg, inB, reduceCtorEq, cds] at hg_); (repeat' (first | exact True.intro | apply And.intro)))); all_goals (first | exact ob1 | exact qi0 _ _ hl | skip)))))
 all_goals unfold qh
 ·rw [if_neg hc_]
 ·rw [if_neg hc_]
 ·rw [if_pos hc_]
 ·rw [if_pos hc_]
end Eng
end Go.Proofs.YtfiofmaknndpcaaGreatDoor
namespace Go.Proofs.YtfiofmaknndpcaaGreatDoor
open Go Go.Conc
namespace Co
def EvR (e : Event) : Prop := (∀ m, e.loc = .mark m -> Neutral m) /\ e.write = false
theorem EvR.toP {Pt : Nat -> Prop} {e : Event} (h : EvR e) : EvP Pt e := ⟨h.1, fun hw => by rw [h.2] at hw; cases hw⟩
def DQ (w w' : World) (es : Array Event) : Prop := w' = w /\ ∀ e ∈ es, EvR e
def Leave (P : Program) (f : FuncId) (v : Value) (cs : List Frame) (g : Goroutine) (_ : World) : Prop :=
 ∃ fr fn, g = G fr cs /\ fr.fn = f /\ fr.mode = .returning /\ fr.defers = [] /\ fr.kind = .normal /\ P.funcs[f]? = some fn /\ ∀ w₁, (results fn fr.tmps).run P w₁ = .ok v w₁
theorem qsm {P : Program} {H Pt : Nat -> Prop} (M : Sys P H Pt) {S : World -> Prop} (hS : ∀ w w₁, Aside H w w₁ -> S w -> S w₁) {Stop : Goroutine -> World -> Prop} (hst : ∀ g w, S w -> Stop g w -> M.Run g w) : ∀ (n : Nat) (g : Goroutine) (w : World), S w -> Goes P true (fun _ w₁ => S w₁) DQ Stop n g w -> M.Run g w
 | 0, g, w, hw, h => hst g w hw (h w hw)
 | n + 1, g, w, hw, h => by
  rcases h with h | ⟨hs, h⟩
  ·exact hst g w hw (h w hw)
  ·refine M.step hs fun w₁ h₁ => ?_
   have hw₁ := hS _ _ (M.sub h₁) hw
   obtain ⟨g', w', es, e, ⟨rfl, hes⟩, h'⟩ := goes_elim (h w₁ hw₁)
   exact ⟨g', w', es, e, fun _ => ⟨fun _ _ => rfl, fun ev hev => (hes ev hev).toP⟩, qsm M hS hst n g' w' hw₁ h'⟩
def qle (P : Program) (f : FuncId) (args : Array Value) (S : World -> Prop) (v : Value) : Prop := ∀ cs w, ∃ n, Goes P true (fun _ w₁ => S w₁) DQ (Leave P f v cs) n (G (Frame.enter P f args .normal) cs) w
theorem qsn {P : Program} {H Pt : Nat -> Prop} {f : FuncId} {args : Array Value} {S : World -> Prop} {v : Value} {w : World} {R : Ending -> World -> Prop} (h : qle P f args S v) (hS : ∀ w w₁, Aside H w w₁ -> S w -> S w₁) (hw : S w) (hR : ∀ w₁, Aside H w w₁ -> R (.returned v) w₁) : qhg P H Pt f args w R := by
 intro M cs hc
 obtain ⟨n, hn⟩ := h cs w
 let S' : World -> Prop := fun w₁ => Aside H w w₁ /\ S w₁
 have hn' : ∀ (n : Nat) (g : Goroutine) (w : World), Goes P true (fun _ w₁ => S w₁) DQ (Leave P f v cs) n g w -> Goes P true (fun _ w₁ => S' w₁) DQ (Leave P f v cs) n g w := by
  intro n
  induction n with
  | zero => exact fun g w h w₁ h₁ => h w₁ h₁.2
  | succ n ih =>
   intro g w h
   rcases h with h | ⟨hs, h⟩
   ·exact .inl fun w₁ h₁ => h w₁ h₁.2
   ·refine .inr ⟨hs, fun w₁ h₁ => ?_⟩
    have := h w₁ h₁.2
    revert this
    cases stepG P true g w₁ <;> simp only [GStep.goes, imp_self]
    exact fun ⟨d, x⟩ => ⟨d, ih _ _ x⟩
 refine qsm M (S := S') (fun w1 w2 h12 h => ⟨h.1.trans h12, hS _ _ h12 h.2⟩) (fun g w1 hS1 hst => ?_) n _ w ⟨Aside.refl _ _, hw⟩ (hn' n _ w hn)
 obtain ⟨fr, fn, rfl, h1, h2, h3, h4, h5, h6⟩ := hst
 exact hc fr w1 h1 ⟨h2, h3, h4, fn, by rw [h1]; exact h5, fun w₁ hr => ⟨v, h6 w₁, hR w₁ (hS1.1.trans (M.sub hr))⟩⟩
end Co
end Go.Proofs.YtfiofmaknndpcaaGreatDoor
namespace Go.Proofs.YtfiofmaknndpcaaGreatDoor
open Go.RowKit Go.Extern.Stop Go.Stop Go.Extern Go.Conc
namespace Co
theorem noE {e : Event} {p : Prop} (h : e ∈ (#[] : Array Event)) : p := by simp at h
def EvX (e : Event) : Prop := EvR e ∨ ∃ f, e.loc = .mark (.extern f)
def okX (e : Event) : Bool := match e.loc with | .mark (.extern _) => true | .mark _ => false | _ => !e.write
theorem q8b {e : Event} (h : okX e = true) : EvX e := by
 unfold okX at h
 split at h
 ·rename_i f hf; exact .inr ⟨f, hf⟩
 ·cases h
 ·rename_i h1 h2
  exact .inl ⟨fun m hm => absurd hm (h2 m), by simpa using h⟩
theorem evsX {es : Array Event} (h : es.all okX = true) : ∀ e ∈ es, EvX e := fun e he => q8b (Array.all_eq_true'.1 h e he)
theorem qqp (quiet : FuncId -> Bool) : ∀ (l : List Event) (q : Bool) (kept : Array Event), (∀ e ∈ kept, ∀ f, e.loc ≠ .mark (.extern f)) -> ∀ e ∈ (l.foldl (seenStep quiet) (q, kept)).2, ∀ f, e.loc ≠ .mark (.extern f) := by
 intro l
 induction l with
 | nil => exact fun _ _ h => h
 | cons a l ih =>
  intro q kept hk e h
  simp only [List.foldl_cons, seenStep] at h
  split at h
  ·exact ih _ _ hk e h
  ·rename_i hne
   refine ih _ _ ?_ e h
   split
   ·exact hk
   ·intro e he
    rcases Array.mem_push.1 he with h | rfl
    ·exact hk e h
    ·exact fun f hf => hne f hf
theorem qso {P : Program} {fn : FuncId} {a : Act} {o : Oper} {w : World} (h : ∀ e ∈ (execOp a.eval o).events P w #[], EvX e) : ∀ e ∈ listed P fn a o w, EvR e := by
 intro e he
 rcases h e (mem_listed he) with h | ⟨f, hf⟩
 ·exact h
 ·unfold listed at he
  rw [seen_def] at he
  exact absurd hf (qqp _ _ _ #[] (by simp) e he f)
section
variable {P : Program} {S : World -> Prop} {Stop : Goroutine -> World -> Prop} {n : Nat} {b : Frame} {a a' : Act} {k : List Item} {cs : List Frame} {ops : Array Oper} {i : Nat} {rest : List Nat} {o : Oper} {w : World} {v : Value}
theorem op_q (ho : ops[i]? = some o) (hw : Region.wanted o (yielded ops a.tmps) = true) (hk : b.kind ≠ .early) (hr : ∀ w₁, S w₁ -> (execOp a.eval o).run P w₁ = .ok (.value v) w₁) (he : ∀ w₁, S w₁ -> ∀ e ∈ (execOp a.eval o).events P w₁ #[], EvX e) (ha : a.put o.dst v = a')
  (h : ∀ w₁, Goes P true (fun _ w₁ => S w₁) DQ Stop n (G (b.at a' (.inRegion ops rest :: k)) cs) w₁) : Goes P true (fun _ w₁ => S w₁) DQ Stop (n + 1) (G (b.at a (.inRegion ops (i :: rest) :: k)) cs) w := by
 subst ha
 refine Goes.step rfl fun w₁ h₁ => ?_
 rw [stepG_value ho hw hk (hr w₁ h₁)]
 exact ⟨⟨rfl, qso (he w₁ h₁)⟩, h w₁⟩
theorem qub (ho : ops[i]? = some o) (hw : Region.wanted o (yielded ops a.tmps) = false) (ha : a.put o.dst undef = a')
  (h : ∀ w₁, Goes P true (fun _ w₁ => S w₁) DQ Stop n (G (b.at a' (.inRegion ops rest :: k)) cs) w₁) : Goes P true (fun _ w₁ => S w₁) DQ Stop (n + 1) (G (b.at a (.inRegion ops (i :: rest) :: k)) cs) w := by
 subst ha
 refine Goes.step rfl fun w₁ h₁ => ?_
 rw [stepG_unwanted ho hw]
 exact ⟨⟨rfl, by simp⟩, h w₁⟩
theorem qv5 {f : FuncId} {args : Array Value} (ho : ops[i]? = some o) (hw : Region.wanted o (yielded ops a.tmps) = true) (hk : b.kind ≠ .early) (hr : ∀ w₁, S w₁ -> (execOp a.eval o).run P w₁ = .ok (.enter f args) w₁) (he : ∀ w₁, S w₁ -> ∀ e ∈ (execOp a.eval o).events P w₁ #[], EvX e)
  (h : ∀ w₁, Goes P true (fun _ w₁ => S w₁) DQ Stop n (G (Frame.enter P f args .normal) (b.at a (.inRegion ops (i :: rest) :: k) :: cs)) w₁) : Goes P true (fun _ w₁ => S w₁) DQ Stop (n + 1) (G (b.at a (.inRegion ops (i :: rest) :: k)) cs) w := by
 refine Goes.step rfl fun w₁ h₁ => ?_
 rw [stepG_enter ho hw hk (hr w₁ h₁)]
 exact ⟨⟨rfl, qso (he w₁ h₁)⟩, h w₁⟩
theorem qv6 (h : ∀ todo w₁, Goes P true (fun _ w₁ => S w₁) DQ Stop n (G { b.at a todo with mode := .returning } cs) w₁) : Goes P true (fun _ w₁ => S w₁) DQ Stop (n + 1) (G (b.at a (.code .ret :: k)) cs) w := by
 refine Goes.step rfl fun w₁ h₁ => ?_
 rw [stepG_ret']
 exact ⟨⟨rfl, by simp⟩, h _ w₁⟩
theorem qv7 {b₀ : Frame} {a₀ : Act} {fn : Func} {todo : List Item} (hn : b.kind = .normal) (hd : a.defers = []) (hf : P.funcs[b.fn]? = some fn) (hr : ∀ w₁, (results fn a.tmps).run P w₁ = .ok v w₁) (he : ∀ w₁, (results fn a.tmps).events P w₁ #[] = #[]) (ha : a₀.put ((ops[i]?).bind (·.dst)) v = a')
  (h : ∀ w₁, Goes P true (fun _ w₁ => S w₁) DQ Stop n (G (b₀.at a' (.inRegion ops rest :: k)) cs) w₁) : Goes P true (fun _ w₁ => S w₁) DQ Stop (n + 1) (G { b.at a todo with mode := .returning } (b₀.at a₀ (.inRegion ops (i :: rest) :: k) :: cs)) w := by
 subst ha
 refine Goes.step rfl fun w₁ h₁ => ?_
 rw [stepG_leave hn hd hf (hr w₁) (he w₁), Frame.finish_at]
 exact ⟨⟨rfl, by simp⟩, h w₁⟩
end
end Co
namespace IsG
open Co
theorem qh8 {P : Program} {Bk : Nat -> Prop} (x : Value) (xT T : TypeId) : Tame P Bk (Instr.typeAssert x xT T true) := by
 unfold Instr.typeAssert
 refine tb (xh _) fun u => ?_
 have hf : ∀ (s d : Option TypeId) (m : String), Tame P Bk (if true = true then (do pure (.tuple #[← zeroValue T, .bool false])) else runtimePanic (.typeAssertion s d T m) : Sem Value) := fun s d m => by
  rw [if_pos rfl]; exact tb (xx _) fun _ => jk _
 dsimp only
 split
 ·exact hf _ _ _
 ·refine tb (yl _) fun i => ?_
  split
  ·exact jk _
  ·exact hf _ _ _
 ·exact hf _ _ _
 ·split
  ·exact jk _
  ·exact hf _ _ _
 ·exact qbs _
theorem evsT {P : Program} {s : Sem Value} {w w' : World} {v : Value} (ht : Tame P (fun _ => False) s) (h : s.run P w = .ok v w') : ∀ e ∈ s.events P w #[], EvX e := fun e he => by
 rcases (qgb _ ht w #[] (fun _ h => h.elim) _ _ h).1 e he with h | h
 ·simp at h
 ·refine .inl ⟨h.1, ?_⟩
  cases hw : e.write with
  | false => rfl
  | true => obtain ⟨_, _, hb⟩ := h.2 hw; exact hb.elim
theorem qkf {P : Program} {s : Sem Value} {v : Value} {w : World} (h : s.run P w = .ok v w) : (do pure (.value (← s)) : Sem Next).run P w = .ok (.value v) w := by simp [Sem.run_bind, h]
theorem qn7 {P : Program} {s : Sem Value} {w : World} (h : ∀ e ∈ s.events P w #[], EvX e) : ∀ e ∈ (do pure (.value (← s)) : Sem Next).events P w #[], EvX e := by
 have : (do pure (.value (← s)) : Sem Next).events P w #[] = s.events P w #[] := by
  rw [Sem.events_bind]
  cases s.run P w <;> rfl
 rw [this]; exact h
theorem q67 (X Y : Value) : #[X, Y] ++ Array.replicate 20 undef = #[X, Y, undef, undef, undef, undef, undef, undef, undef, undef, undef, undef, undef, undef, undef, undef, undef, undef, undef, undef, undef, undef] := by
 apply Array.toList_inj.1
 simp [List.replicate]
theorem q68 (X Y Z : Value) : #[X, Y, Z] ++ Array.replicate 51 undef = #[X, Y, Z, undef, undef, undef, undef, undef, undef, undef, undef, undef, undef, undef, undef, undef, undef, undef, undef, undef, undef, undef, undef, undef, undef, undef, undef, undef, undef, undef, undef, undef, undef, undef, undef, undef, undef, undef, undef, undef, undef, undef, undef, undef, undef, undef, undef, undef, undef, undef, undef, undef, undef, undef] := by
 apply Array.toList_inj.1
 simp [List.replicate]
theorem typeOf (v : Value) (w : World) : (Extern.ReflectliteType.typeOf #[.iface 225 v]).run Tryz.prog w = .ok (.iface 205 (.agg #[.pointer (some ⟨3, 225, none⟩)])) w := by kernel_rfl
theorem comparable (w : World) : (callFunc 192 #[.agg #[.pointer (some ⟨3, 225, none⟩)]]).run Tryz.prog w = .ok (.value (.bool true)) w := by kernel_rfl
set_option maxRecDepth 100000 in
set_option maxHeartbeats 2000000 in
theorem same (a : Addr) : qle Tryz.prog 135 #[.iface 225 (.pointer (some a)), .iface 225 (.pointer (some a))] (fun _ => True) (.bool true) := by
 intro cs w
 obtain ⟨i, hi, hcmp⟩ := Option.map_eq_some_iff.1 (show (Tryz.prog.info? 225).map (·.comparable) = some true by kernel_rfl)
 obtain ⟨j, hj, hjs⟩ := Option.map_eq_some_iff.1 (show (Tryz.prog.info? 251).map (·.size) = some 1 by kernel_rfl)
 have h8 := @run_callFunc_extern Tryz.prog 162 _ Extern.ReflectliteType.typeOf Tryz.func162 (by kernel_rfl) (by kernel_rfl) (by kernel_rfl) (by kernel_rfl)
 have heq := fun w => run_eql_iface_ptr_same (P := Tryz.prog) w a Tryz.underlying146 Tryz.underlying225 hi hcmp hj
 have eqE : ∀ w₁ : World, ∀ e ∈ (binOp .eql 146 (Value.iface 225 (.pointer (some a))) (Value.iface 225 (.pointer (some a)))).events Tryz.prog w₁ #[], EvX e := fun w₁ e he => by
  have ht : Tame Tryz.prog (fun _ => False) (binOp .eql 146 (Value.iface 225 (.pointer (some a))) (Value.iface 225 (.pointer (some a)))) := qjl _ _ _ (by simp) (by simp) (by simp) (by simp)
  rcases (qgb _ ht w₁ #[] (fun _ h => h.elim) _ _ (heq w₁)).1 e he with h | h
  ·simp at h
  ·refine .inl ⟨h.1, ?_⟩
   cases hw : e.write with
   | false => rfl
   | true => obtain ⟨_, _, hb⟩ := h.2 hw; exact hb.elim
 refine ⟨100, ?_⟩
 rw [show Frame.enter Tryz.prog 135 #[(Value.iface 225 (.pointer (some a))), (Value.iface 225 (.pointer (some a)))] .normal = (base 135).at ⟨#[(Value.iface 225 (.pointer (some a))), (Value.iface 225 (.pointer (some a))), undef, undef, undef, undef, undef, undef, undef, undef, undef, undef, undef, undef, undef, undef, undef, undef, undef, undef, undef, undef], []⟩ [.code (Tryz.f135.body.getD .skip)] from (enter_at #[(Value.iface 225 (.pointer (some a))), (Value.iface 225 (.pointer (some a)))] Tryz.func135 rfl).trans (by rw [← q67]; rfl)]
 simp only [Tryz.f135, Option.getD_some]
 b_ctl
 b_ctl
 refine op_q (v := .bool false) (a' := ⟨#[(Value.iface 225 (.pointer (some a))), (Value.iface 225 (.pointer (some a))), undef, undef, .bool false, undef, undef, undef, undef, undef, undef, undef, undef, undef, undef, undef, undef, undef, undef, undef, undef, undef], []⟩) rfl rfl (by decide) (fun _ _ => rfl) (fun _ _ _ h => noE h) rfl (fun _ => ?_)
 b_ctl
 b_ctl
 b_ctl
 b_ctl
 refine op_q (v := (Value.iface 225 (.pointer (some a)))) (a' := ⟨#[(Value.iface 225 (.pointer (some a))), (Value.iface 225 (.pointer (some a))), undef, undef, .bool false, undef, (Value.iface 225 (.pointer (some a))), undef, undef, undef, undef, undef, undef, undef, undef, undef, undef, undef, undef, undef, undef, undef], []⟩) rfl rfl (by decide) (fun _ _ => rfl) (fun _ _ _ h => noE h) rfl (fun _ => ?_)
 refine op_q (v := .bool false) (a' := ⟨#[(Value.iface 225 (.pointer (some a))), (Value.iface 225 (.pointer (some a))), undef, undef, .bool false, undef, (Value.iface 225 (.pointer (some a))), .bool false, undef, undef, undef, undef, undef, undef, undef, undef, undef, undef, undef, undef, undef, undef], []⟩) rfl rfl (by decide) (fun w₁ _ => by kernel_rfl) (fun w₁ _ => evsX (by kernel_rfl)) rfl (fun _ => ?_)
 refine op_q (v := .bool false) (a' := ⟨#[(Value.iface 225 (.pointer (some a))), (Value.iface 225 (.pointer (some a))), undef, undef, .bool false, undef, (Value.iface 225 (.pointer (some a))), .bool false, .bool false, undef, undef, undef, undef, undef, undef, undef, undef, undef, undef, undef, undef, undef], []⟩) rfl rfl (by decide) (fun _ _ => rfl) (fun _ _ _ h => noE h) rfl (fun _ => ?_)
 refine op_q (v := (Value.iface 225 (.pointer (some a)))) (a' := ⟨#[(Value.iface 225 (.pointer (some a))), (Value.iface 225 (.pointer (some a))), undef, undef, .bool false, undef, (Value.iface 225 (.pointer (some a))), .bool false, .bool false, (Value.iface 225 (.pointer (some a))), undef, undef, undef, undef, undef, undef, undef, undef, undef, undef, undef, undef], []⟩) rfl rfl (by decide) (fun _ _ => rfl) (fun _ _ _ h => noE h) rfl (fun _ => ?_)
 refine op_q (v := .bool false) (a' := ⟨#[(Value.iface 225 (.pointer (some a))), (Value.iface 225 (.pointer (some a))), undef, undef, .bool false, undef, (Value.iface 225 (.pointer (some a))), .bool false, .bool false, (Value.iface 225 (.pointer (some a))), .bool false, undef, undef, undef, undef, undef, undef, undef, undef, undef, undef, undef], []⟩) rfl rfl (by decide) (fun w₁ _ => by kernel_rfl) (fun w₁ _ => evsX (by kernel_rfl)) rfl (fun _ => ?_)
 refine op_q (v := .bool false) (a' := ⟨#[(Value.iface 225 (.pointer (some a))), (Value.iface 225 (.pointer (some a))), undef, undef, .bool false, undef, (Value.iface 225 (.pointer (some a))), .bool false, .bool false, (Value.iface 225 (.pointer (some a))), .bool false, .bool false, undef, undef, undef, undef, undef, undef, undef, undef, undef, undef], []⟩) rfl rfl (by decide) (fun _ _ => rfl) (fun _ _ _ h => noE h) rfl (fun _ => ?_)
 b_ctl
 b_cond false
 b_ctl
 b_ctl
 b_ctl
 refine op_q (v := (Value.iface 225 (.pointer (some a)))) (a' := ⟨#[(Value.iface 225 (.pointer (some a))), (Value.iface 225 (.pointer (some a))), undef, undef, .bool false, undef, (Value.iface 225 (.pointer (some a))), .bool false, .bool false, (Value.iface 225 (.pointer (some a))), .bool false, .bool false, undef, undef, undef, (Value.iface 225 (.pointer (some a))), undef, undef, undef, undef, undef, undef], []⟩) rfl rfl (by decide) (fun _ _ => rfl) (fun _ _ _ h => noE h) rfl (fun _ => ?_)
 refine op_q (v := (Value.iface 205 (.agg #[.pointer (some ⟨3, 225, none⟩)]))) (a' := ⟨#[(Value.iface 225 (.pointer (some a))), (Value.iface 225 (.pointer (some a))), undef, undef, .bool false, undef, (Value.iface 225 (.pointer (some a))), .bool false, .bool false, (Value.iface 225 (.pointer (some a))), .bool false, .bool false, undef, undef, undef, (Value.iface 225 (.pointer (some a))), (Value.iface 205 (.agg #[.pointer (some ⟨3, 225, none⟩)])), undef, undef, undef, undef, undef], []⟩) rfl rfl (by decide) (fun w₁ _ => by kernel_rfl) (fun w₁ _ => evsX (by kernel_rfl)) rfl (fun _ => ?_)
 refine op_q (v := .bool true) (a' := ⟨#[(Value.iface 225 (.pointer (some a))), (Value.iface 225 (.pointer (some a))), undef, undef, .bool false, undef, (Value.iface 225 (.pointer (some a))), .bool false, .bool false, (Value.iface 225 (.pointer (some a))), .bool false, .bool false, undef, undef, undef, (Value.iface 225 (.pointer (some a))), (Value.iface 205 (.agg #[.pointer (some ⟨3, 225, none⟩)])), .bool true, undef, undef, undef, undef], []⟩) rfl rfl (by decide) (fun w₁ _ => by kernel_rfl) (fun w₁ _ => evsX (by kernel_rfl)) rfl (fun _ => ?_)
 refine op_q (v := .bool true) (a' := ⟨#[(Value.iface 225 (.pointer (some a))), (Value.iface 225 (.pointer (some a))), undef, undef, .bool false, .bool true, (Value.iface 225 (.pointer (some a))), .bool false, .bool false, (Value.iface 225 (.pointer (some a))), .bool false, .bool false, undef, undef, undef, (Value.iface 225 (.pointer (some a))), (Value.iface 205 (.agg #[.pointer (some ⟨3, 225, none⟩)])), .bool true, undef, undef, undef, undef], []⟩) rfl rfl (by decide) (fun _ _ => rfl) (fun _ _ _ h => noE h) rfl (fun _ => ?_)
 b_ctl
 b_ctl
 b_ctl
 refine op_q (v := (Value.iface 225 (.pointer (some a)))) (a' := ⟨#[(Value.iface 225 (.pointer (some a))), (Value.iface 225 (.pointer (some a))), undef, undef, .bool false, .bool true, (Value.iface 225 (.pointer (some a))), .bool false, .bool false, (Value.iface 225 (.pointer (some a))), .bool false, .bool false, undef, undef, undef, (Value.iface 225 (.pointer (some a))), (Value.iface 205 (.agg #[.pointer (some ⟨3, 225, none⟩)])), .bool true, (Value.iface 225 (.pointer (some a))), undef, undef, undef], []⟩) rfl rfl (by decide) (fun _ _ => rfl) (fun _ _ _ h => noE h) rfl (fun _ => ?_)
 refine op_q (v := (Value.iface 225 (.pointer (some a)))) (a' := ⟨#[(Value.iface 225 (.pointer (some a))), (Value.iface 225 (.pointer (some a))), undef, undef, .bool false, .bool true, (Value.iface 225 (.pointer (some a))), .bool false, .bool false, (Value.iface 225 (.pointer (some a))), .bool false, .bool false, undef, undef, undef, (Value.iface 225 (.pointer (some a))), (Value.iface 205 (.agg #[.pointer (some ⟨3, 225, none⟩)])), .bool true, (Value.iface 225 (.pointer (some a))), (Value.iface 225 (.pointer (some a))), undef, undef], []⟩) rfl rfl (by decide) (fun _ _ => rfl) (fun _ _ _ h => noE h) rfl (fun _ => ?_)
 refine op_q (v := .bool true) (a' := ⟨#[(Value.iface 225 (.pointer (some a))), (Value.iface 225 (.pointer (some a))), undef, undef, .bool false, .bool true, (Value.iface 225 (.pointer (some a))), .bool false, .bool false, (Value.iface 225 (.pointer (some a))), .bool false, .bool false, undef, undef, undef, (Value.iface 225 (.pointer (some a))), (Value.iface 205 (.agg #[.pointer (some ⟨3, 225, none⟩)])), .bool true, (Value.iface 225 (.pointer (some a))), (Value.iface 225 (.pointer (some a))), .bool true, undef], []⟩) rfl rfl (by decide) (fun _ _ => rfl) (fun _ _ _ h => noE h) rfl (fun _ => ?_)
 refine qv5 (f := 163) (args := #[(Value.iface 225 (.pointer (some a))), (Value.iface 225 (.pointer (some a))), .bool true]) rfl rfl (by decide) (fun w₁ _ => by kernel_rfl) (fun w₁ _ => evsX (by kernel_rfl)) (fun _ => ?_)
 rw [show Frame.enter Tryz.prog 163 #[(Value.iface 225 (.pointer (some a))), (Value.iface 225 (.pointer (some a))), .bool true] .normal = (base 163).at ⟨#[(Value.iface 225 (.pointer (some a))), (Value.iface 225 (.pointer (some a))), .bool true, undef, undef, undef, undef, undef, undef, undef, undef, undef, undef, undef, undef, undef, undef, undef, undef, undef, undef, undef, undef, undef, undef, undef, undef, undef, undef, undef, undef, undef, undef, undef, undef, undef, undef, undef, undef, undef, undef, undef, undef, undef, undef, undef, undef, undef, undef, undef, undef, undef, undef, undef], []⟩ [.code (Tryz.f163.body.getD .skip)] from (enter_at #[(Value.iface 225 (.pointer (some a))), (Value.iface 225 (.pointer (some a))), .bool true] Tryz.func163 rfl).trans (by rw [← q68]; rfl)]
 simp only [Tryz.f163, Option.getD_some]
 b_ctl
 b_ctl
 refine op_q (v := .bool false) (a' := ⟨#[(Value.iface 225 (.pointer (some a))), (Value.iface 225 (.pointer (some a))), .bool true, undef, undef, undef, .bool false, undef, undef, undef, undef, undef, undef, undef, undef, undef, undef, undef, undef, undef, undef, undef, undef, undef, undef, undef, undef, undef, undef, undef, undef, undef, undef, undef, undef, undef, undef, undef, undef, undef, undef, undef, undef, undef, undef, undef, undef, undef, undef, undef, undef, undef, undef, undef], []⟩) rfl rfl (by decide) (fun _ _ => rfl) (fun _ _ _ h => noE h) rfl (fun _ => ?_)
 b_ctl
 b_ctl
 b_ctl
 b_ctl
 b_ctl
 b_ctl
 b_ctl
 refine op_q (v := .bool true) (a' := ⟨#[(Value.iface 225 (.pointer (some a))), (Value.iface 225 (.pointer (some a))), .bool true, undef, undef, undef, .bool false, undef, undef, undef, undef, undef, undef, undef, .bool true, undef, undef, undef, undef, undef, undef, undef, undef, undef, undef, undef, undef, undef, undef, undef, undef, undef, undef, undef, undef, undef, undef, undef, undef, undef, undef, undef, undef, undef, undef, undef, undef, undef, undef, undef, undef, undef, undef, undef], []⟩) rfl rfl (by decide) (fun _ _ => rfl) (fun _ _ _ h => noE h) rfl (fun _ => ?_)
 refine op_q (v := .bool true) (a' := ⟨#[(Value.iface 225 (.pointer (some a))), (Value.iface 225 (.pointer (some a))), .bool true, undef, undef, undef, .bool false, undef, undef, undef, undef, undef, undef, undef, .bool true, .bool true, undef, undef, undef, undef, undef, undef, undef, undef, undef, undef, undef, undef, undef, undef, undef, undef, undef, undef, undef, undef, undef, undef, undef, undef, undef, undef, undef, undef, undef, undef, undef, undef, undef, undef, undef, undef, undef, undef], []⟩) rfl rfl (by decide) (fun _ _ => rfl) (fun _ _ _ h => noE h) rfl (fun _ => ?_)
 refine op_q (v := (Value.iface 225 (.pointer (some a)))) (a' := ⟨#[(Value.iface 225 (.pointer (some a))), (Value.iface 225 (.pointer (some a))), .bool true, undef, undef, undef, .bool false, undef, undef, undef, undef, undef, undef, undef, .bool true, .bool true, (Value.iface 225 (.pointer (some a))), undef, undef, undef, undef, undef, undef, undef, undef, undef, undef, undef, undef, undef, undef, undef, undef, undef, undef, undef, undef, undef, undef, undef, undef, undef, undef, undef, undef, undef, undef, undef, undef, undef, undef, undef, undef, undef], []⟩) rfl rfl (by decide) (fun _ _ => rfl) (fun _ _ _ h => noE h) rfl (fun _ => ?_)
 refine op_q (v := (Value.iface 225 (.pointer (some a)))) (a' := ⟨#[(Value.iface 225 (.pointer (some a))), (Value.iface 225 (.pointer (some a))), .bool true, undef, undef, undef, .bool false, undef, undef, undef, undef, undef, undef, undef, .bool true, .bool true, (Value.iface 225 (.pointer (some a))), (Value.iface 225 (.pointer (some a))), undef, undef, undef, undef, undef, undef, undef, undef, undef, undef, undef, undef, undef, undef, undef, undef, undef, undef, undef, undef, undef, undef, undef, undef, undef, undef, undef, undef, undef, undef, undef, undef, undef, undef, undef, undef], []⟩) rfl rfl (by decide) (fun _ _ => rfl) (fun _ _ _ h => noE h) rfl (fun _ => ?_)
 refine op_q (v := .bool true) (a' := ⟨#[(Value.iface 225 (.pointer (some a))), (Value.iface 225 (.pointer (some a))), .bool true, undef, undef, undef, .bool false, undef, undef, undef, undef, undef, undef, undef, .bool true, .bool true, (Value.iface 225 (.pointer (some a))), (Value.iface 225 (.pointer (some a))), .bool true, undef, undef, undef, undef, undef, undef, undef, undef, undef, undef, undef, undef, undef, undef, undef, undef, undef, undef, undef, undef, undef, undef, undef, undef, undef, undef, undef, undef, undef, undef, undef, undef, undef, undef, undef], []⟩) rfl rfl (by decide) (fun w₁ _ => qkf (s := binOp .eql 146 (Value.iface 225 (.pointer (some a))) (Value.iface 225 (.pointer (some a)))) (heq w₁)) (fun w₁ _ => qn7 (s := binOp .eql 146 (Value.iface 225 (.pointer (some a))) (Value.iface 225 (.pointer (some a)))) (eqE w₁)) rfl (fun _ => ?_)
 refine op_q (v := .bool true) (a' := ⟨#[(Value.iface 225 (.pointer (some a))), (Value.iface 225 (.pointer (some a))), .bool true, undef, undef, undef, .bool false, undef, undef, undef, undef, undef, undef, undef, .bool true, .bool true, (Value.iface 225 (.pointer (some a))), (Value.iface 225 (.pointer (some a))), .bool true, .bool true, undef, undef, undef, undef, undef, undef, undef, undef, undef, undef, undef, undef, undef, undef, undef, undef, undef, undef, undef, undef, undef, undef, undef, undef, undef, undef, undef, undef, undef, undef, undef, undef, undef, undef], []⟩) rfl rfl (by decide) (fun _ _ => rfl) (fun _ _ _ h => noE h) rfl (fun _ => ?_)
 b_ctl
 b_cond true
 b_ctl
 b_ctl
 refine op_q (v := .bool true) (a' := ⟨#[(Value.iface 225 (.pointer (some a))), (Value.iface 225 (.pointer (some a))), .bool true, undef, undef, undef, .bool true, undef, undef, undef, undef, undef, undef, undef, .bool true, .bool true, (Value.iface 225 (.pointer (some a))), (Value.iface 225 (.pointer (some a))), .bool true, .bool true, undef, undef, undef, undef, undef, undef, undef, undef, undef, undef, undef, undef, undef, undef, undef, undef, undef, undef, undef, undef, undef, undef, undef, undef, undef, undef, undef, undef, undef, undef, undef, undef, undef, undef], []⟩) rfl rfl (by decide) (fun _ _ => rfl) (fun _ _ _ h => noE h) rfl (fun _ => ?_)
 b_ctl
 refine qv6 (fun _ _ => ?_)
 refine qv7 (v := .bool true) (a' := ⟨#[(Value.iface 225 (.pointer (some a))), (Value.iface 225 (.pointer (some a))), undef, undef, .bool false, .bool true, (Value.iface 225 (.pointer (some a))), .bool false, .bool false, (Value.iface 225 (.pointer (some a))), .bool false, .bool false, undef, undef, undef, (Value.iface 225 (.pointer (some a))), (Value.iface 205 (.agg #[.pointer (some ⟨3, 225, none⟩)])), .bool true, (Value.iface 225 (.pointer (some a))), (Value.iface 225 (.pointer (some a))), .bool true, .bool true], []⟩) rfl rfl Tryz.func163 (fun w₁ => results_tmp (t := 6) rfl _ Tryz.prog w₁) (fun w₁ => events_results_tmp (t := 6) rfl _ _) rfl (fun _ => ?_)
 refine op_q (v := .bool true) (a' := ⟨#[(Value.iface 225 (.pointer (some a))), (Value.iface 225 (.pointer (some a))), undef, undef, .bool true, .bool true, (Value.iface 225 (.pointer (some a))), .bool false, .bool false, (Value.iface 225 (.pointer (some a))), .bool false, .bool false, undef, undef, undef, (Value.iface 225 (.pointer (some a))), (Value.iface 205 (.agg #[.pointer (some ⟨3, 225, none⟩)])), .bool true, (Value.iface 225 (.pointer (some a))), (Value.iface 225 (.pointer (some a))), .bool true, .bool true], []⟩) rfl rfl (by decide) (fun _ _ => rfl) (fun _ _ _ h => noE h) rfl (fun _ => ?_)
 b_ctl
 refine qv6 (fun _ _ => ?_)
 exact Goes.stop fun _ _ => ⟨_, _, rfl, rfl, rfl, rfl, rfl, Tryz.func135, fun w₁ => results_tmp (t := 4) rfl _ Tryz.prog w₁⟩
theorem noIs (v : Value) (xT : TypeId) (w : World) : (Instr.typeAssert (.iface 225 v) xT 207 true).run Tryz.prog w = .ok (.tuple #[.nilIface, .bool false]) w := run_typeAssert_lacksB Tryz.underlying207 (by kernel_rfl) (by kernel_rfl) v xT w
theorem qsp (v : Value) (xT : TypeId) (w : World) : (Instr.typeAssert (.iface 225 v) xT 210 true).run Tryz.prog w = .ok (.tuple #[.nilIface, .bool false]) w := run_typeAssert_lacksB Tryz.underlying210 (by kernel_rfl) (by kernel_rfl) v xT w
theorem qpa (v : Value) (xT : TypeId) (w : World) : (Instr.typeAssert (.iface 225 v) xT 212 true).run Tryz.prog w = .ok (.tuple #[.nilIface, .bool false]) w := run_typeAssert_lacksB Tryz.underlying212 (by kernel_rfl) (by kernel_rfl) v xT w
set_option maxRecDepth 100000 in
set_option maxHeartbeats 2000000 in
theorem other (a b : Addr) (ca cb : Array Value) (ta tb : TypeId) (hne : a ≠ b) : qle Tryz.prog 135 #[(Value.iface 225 (.pointer (some a))), (Value.iface 225 (.pointer (some b)))] (fun w => w.heap[a.block]? = some (.cells ca ta (0, 0)) /\ w.heap[b.block]? = some (.cells cb tb (0, 0))) (.bool false) := by
 intro cs w
 obtain ⟨i, hi, hcmp⟩ := Option.map_eq_some_iff.1 (show (Tryz.prog.info? 225).map (·.comparable) = some true by kernel_rfl)
 obtain ⟨j, hj, hjs⟩ := Option.map_eq_some_iff.1 (show (Tryz.prog.info? 251).map (·.size) = some 1 by kernel_rfl)
 have heq := fun (w : World) (h : w.heap[a.block]? = some (.cells ca ta (0, 0)) /\ w.heap[b.block]? = some (.cells cb tb (0, 0))) => run_eql_iface_ptr_other (P := Tryz.prog) w Tryz.underlying146 Tryz.underlying225 hi hcmp hj (by rw [hjs]; decide) hne h.1 h.2
 have eqE : ∀ w₁ : World, (w₁.heap[a.block]? = some (.cells ca ta (0, 0)) /\ w₁.heap[b.block]? = some (.cells cb tb (0, 0))) -> ∀ e ∈ (binOp .eql 146 (Value.iface 225 (.pointer (some a))) (Value.iface 225 (.pointer (some b)))).events Tryz.prog w₁ #[], EvX e := fun w₁ h₁ e he => by
  have ht : Tame Tryz.prog (fun _ => False) (binOp .eql 146 (Value.iface 225 (.pointer (some a))) (Value.iface 225 (.pointer (some b)))) := qjl _ _ _ (by simp) (by simp) (by simp) (by simp)
  rcases (qgb _ ht w₁ #[] (fun _ h => h.elim) _ _ (heq w₁ h₁)).1 e he with h | h
  ·simp at h
  ·refine .inl ⟨h.1, ?_⟩
   cases hw : e.write with
   | false => rfl
   | true => obtain ⟨_, _, hb⟩ := h.2 hw; exact hb.elim
 refine ⟨140, ?_⟩
 rw [show Frame.enter Tryz.prog 135 #[(Value.iface 225 (.pointer (some a))), (Value.iface 225 (.pointer (some b)))] .normal = (base 135).at ⟨#[(Value.iface 225 (.pointer (some a))), (Value.iface 225 (.pointer (some b))), undef, undef, undef, undef, undef, undef, undef, undef, undef, undef, undef, undef, undef, undef, undef, undef, undef, undef, undef, undef], []⟩ [.code (Tryz.f135.body.getD .skip)] from (enter_at #[(Value.iface 225 (.pointer (some a))), (Value.iface 225 (.pointer (some b)))] Tryz.func135 rfl).trans (by rw [← q67]; rfl)]
 simp only [Tryz.f135, Option.getD_some]
 b_ctl
 b_ctl
 refine op_q (v := .bool false) (a' := ⟨#[(Value.iface 225 (.pointer (some a))), (Value.iface 225 (.pointer (some b))), undef, undef, .bool false, undef, undef, undef, undef, undef, undef, undef, undef, undef, undef, undef, undef, undef, undef, undef, undef, undef], []⟩) rfl rfl (by decide) (fun _ _ => rfl) (fun _ _ _ h => noE h) rfl (fun _ => ?_)
 b_ctl
 b_ctl
 b_ctl
 b_ctl
 refine op_q (v := (Value.iface 225 (.pointer (some a)))) (a' := ⟨#[(Value.iface 225 (.pointer (some a))), (Value.iface 225 (.pointer (some b))), undef, undef, .bool false, undef, (Value.iface 225 (.pointer (some a))), undef, undef, undef, undef, undef, undef, undef, undef, undef, undef, undef, undef, undef, undef, undef], []⟩) rfl rfl (by decide) (fun _ _ => rfl) (fun _ _ _ h => noE h) rfl (fun _ => ?_)
 refine op_q (v := .bool false) (a' := ⟨#[(Value.iface 225 (.pointer (some a))), (Value.iface 225 (.pointer (some b))), undef, undef, .bool false, undef, (Value.iface 225 (.pointer (some a))), .bool false, undef, undef, undef, undef, undef, undef, undef, undef, undef, undef, undef, undef, undef, undef], []⟩) rfl rfl (by decide) (fun w₁ _ => by kernel_rfl) (fun w₁ _ => evsX (by kernel_rfl)) rfl (fun _ => ?_)
 refine op_q (v := .bool false) (a' := ⟨#[(Value.iface 225 (.pointer (some a))), (Value.iface 225 (.pointer (some b))), undef, undef, .bool false, undef, (Value.iface 225 (.pointer (some a))), .bool false, .bool false, undef, undef, undef, undef, undef, undef, undef, undef, undef, undef, undef, undef, undef], []⟩) rfl rfl (by decide) (fun _ _ => rfl) (fun _ _ _ h => noE h) rfl (fun _ => ?_)
 refine op_q (v := (Value.iface 225 (.pointer (some b)))) (a' := ⟨#[(Value.iface 225 (.pointer (some a))), (Value.iface 225 (.pointer (some b))), undef, undef, .bool false, undef, (Value.iface 225 (.pointer (some a))), .bool false, .bool false, (Value.iface 225 (.pointer (some b))), undef, undef, undef, undef, undef, undef, undef, undef, undef, undef, undef, undef], []⟩) rfl rfl (by decide) (fun _ _ => rfl) (fun _ _ _ h => noE h) rfl (fun _ => ?_)
 refine op_q (v := .bool false) (a' := ⟨#[(Value.iface 225 (.pointer (some a))), (Value.iface 225 (.pointer (some b))), undef, undef, .bool false, undef, (Value.iface 225 (.pointer (some a))), .bool false, .bool false, (Value.iface 225 (.pointer (some b))), .bool false, undef, undef, undef, undef, undef, undef, undef, undef, undef, undef, undef], []⟩) rfl rfl (by decide) (fun w₁ _ => by kernel_rfl) (fun w₁ _ => evsX (by kernel_rfl)) rfl (fun _ => ?_)
 refine op_q (v := .bool false) (a' := ⟨#[(Value.iface 225 (.pointer (some a))), (Value.iface 225 (.pointer (some b))), undef, undef, .bool false, undef, (Value.iface 225 (.pointer (some a))), .bool false, .bool false, (Value.iface 225 (.pointer (some b))), .bool false, .bool false, undef, undef, undef, undef, undef, undef, undef, undef, undef, undef], []⟩) rfl rfl (by decide) (fun _ _ => rfl) (fun _ _ _ h => noE h) rfl (fun _ => ?_)
 b_ctl
 b_cond false
 b_ctl
 b_ctl
 b_ctl
 refine op_q (v := (Value.iface 225 (.pointer (some b)))) (a' := ⟨#[(Value.iface 225 (.pointer (some a))), (Value.iface 225 (.pointer (some b))), undef, undef, .bool false, undef, (Value.iface 225 (.pointer (some a))), .bool false, .bool false, (Value.iface 225 (.pointer (some b))), .bool false, .bool false, undef, undef, undef, (Value.iface 225 (.pointer (some b))), undef, undef, undef, undef, undef, undef], []⟩) rfl rfl (by decide) (fun _ _ => rfl) (fun _ _ _ h => noE h) rfl (fun _ => ?_)
 refine op_q (v := (Value.iface 205 (.agg #[.pointer (some ⟨3, 225, none⟩)]))) (a' := ⟨#[(Value.iface 225 (.pointer (some a))), (Value.iface 225 (.pointer (some b))), undef, undef, .bool false, undef, (Value.iface 225 (.pointer (some a))), .bool false, .bool false, (Value.iface 225 (.pointer (some b))), .bool false, .bool false, undef, undef, undef, (Value.iface 225 (.pointer (some b))), (Value.iface 205 (.agg #[.pointer (some ⟨3, 225, none⟩)])), undef, undef, undef, undef, undef], []⟩) rfl rfl (by decide) (fun w₁ _ => by kernel_rfl) (fun w₁ _ => evsX (by kernel_rfl)) rfl (fun _ => ?_)
 refine op_q (v := .bool true) (a' := ⟨#[(Value.iface 225 (.pointer (some a))), (Value.iface 225 (.pointer (some b))), undef, undef, .bool false, undef, (Value.iface 225 (.pointer (some a))), .bool false, .bool false, (Value.iface 225 (.pointer (some b))), .bool false, .bool false, undef, undef, undef, (Value.iface 225 (.pointer (some b))), (Value.iface 205 (.agg #[.pointer (some ⟨3, 225, none⟩)])), .bool true, undef, undef, undef, undef], []⟩) rfl rfl (by decide) (fun w₁ _ => by kernel_rfl) (fun w₁ _ => evsX (by kernel_rfl)) rfl (fun _ => ?_)
 refine op_q (v := .bool true) (a' := ⟨#[(Value.iface 225 (.pointer (some a))), (Value.iface 225 (.pointer (some b))), undef, undef, .bool false, .bool true, (Value.iface 225 (.pointer (some a))), .bool false, .bool false, (Value.iface 225 (.pointer (some b))), .bool false, .bool false, undef, undef, undef, (Value.iface 225 (.pointer (some b))), (Value.iface 205 (.agg #[.pointer (some ⟨3, 225, none⟩)])), .bool true, undef, undef, undef, undef], []⟩) rfl rfl (by decide) (fun _ _ => rfl) (fun _ _ _ h => noE h) rfl (fun _ => ?_)
 b_ctl
 b_ctl
 b_ctl
 refine op_q (v := (Value.iface 225 (.pointer (some a)))) (a' := ⟨#[(Value.iface 225 (.pointer (some a))), (Value.iface 225 (.pointer (some b))), undef, undef, .bool false, .bool true, (Value.iface 225 (.pointer (some a))), .bool false, .bool false, (Value.iface 225 (.pointer (some b))), .bool false, .bool false, undef, undef, undef, (Value.iface 225 (.pointer (some b))), (Value.iface 205 (.agg #[.pointer (some ⟨3, 225, none⟩)])), .bool true, (Value.iface 225 (.pointer (some a))), undef, undef, undef], []⟩) rfl rfl (by decide) (fun _ _ => rfl) (fun _ _ _ h => noE h) rfl (fun _ => ?_)
 refine op_q (v := (Value.iface 225 (.pointer (some b)))) (a' := ⟨#[(Value.iface 225 (.pointer (some a))), (Value.iface 225 (.pointer (some b))), undef, undef, .bool false, .bool true, (Value.iface 225 (.pointer (some a))), .bool false, .bool false, (Value.iface 225 (.pointer (some b))), .bool false, .bool false, undef, undef, undef, (Value.iface 225 (.pointer (some b))), (Value.iface 205 (.agg #[.pointer (some ⟨3, 225, none⟩)])), .bool true, (Value.iface 225 (.pointer (some a))), (Value.iface 225 (.pointer (some b))), undef, undef], []⟩) rfl rfl (by decide) (fun _ _ => rfl) (fun _ _ _ h => noE h) rfl (fun _ => ?_)
 refine op_q (v := .bool true) (a' := ⟨#[(Value.iface 225 (.pointer (some a))), (Value.iface 225 (.pointer (some b))), undef, undef, .bool false, .bool true, (Value.iface 225 (.pointer (some a))), .bool false, .bool false, (Value.iface 225 (.pointer (some b))), .bool false, .bool false, undef, undef, undef, (Value.iface 225 (.pointer (some b))), (Value.iface 205 (.agg #[.pointer (some ⟨3, 225, none⟩)])), .bool true, (Value.iface 225 (.pointer (some a))), (Value.iface 225 (.pointer (some b))), .bool true, undef], []⟩) rfl rfl (by decide) (fun _ _ => rfl) (fun _ _ _ h => noE h) rfl (fun _ => ?_)
 refine qv5 (f := 163) (args := #[(Value.iface 225 (.pointer (some a))), (Value.iface 225 (.pointer (some b))), .bool true]) rfl rfl (by decide) (fun w₁ _ => by kernel_rfl) (fun w₁ _ => evsX (by kernel_rfl)) (fun _ => ?_)
 rw [show Frame.enter Tryz.prog 163 #[(Value.iface 225 (.pointer (some a))), (Value.iface 225 (.pointer (some b))), .bool true] .normal = (base 163).at ⟨#[(Value.iface 225 (.pointer (some a))), (Value.iface 225 (.pointer (some b))), .bool true, undef, undef, undef, undef, undef, undef, undef, undef, undef, undef, undef, undef, undef, undef, undef, undef, undef, undef, undef, undef, undef, undef, undef, undef, undef, undef, undef, undef, undef, undef, undef, undef, undef, undef, undef, undef, undef, undef, undef, undef, undef, undef, undef, undef, undef, undef, undef, undef, undef, undef, undef], []⟩ [.code (Tryz.f163.body.getD .skip)] from (enter_at #[(Value.iface 225 (.pointer (some a))), (Value.iface 225 (.pointer (some b))), .bool true] Tryz.func163 rfl).trans (by rw [← q68]; rfl)]
 simp only [Tryz.f163, Option.getD_some]
 b_ctl
 b_ctl
 refine op_q (v := .bool false) (a' := ⟨#[(Value.iface 225 (.pointer (some a))), (Value.iface 225 (.pointer (some b))), .bool true, undef, undef, undef, .bool false, undef, undef, undef, undef, undef, undef, undef, undef, undef, undef, undef, undef, undef, undef, undef, undef, undef, undef, undef, undef, undef, undef, undef, undef, undef, undef, undef, undef, undef, undef, undef, undef, undef, undef, undef, undef, undef, undef, undef, undef, undef, undef, undef, undef, undef, undef, undef], []⟩) rfl rfl (by decide) (fun _ _ => rfl) (fun _ _ _ h => noE h) rfl (fun _ => ?_)
 b_ctl
 b_ctl
 b_ctl
 b_ctl
 b_ctl
 b_ctl
 b_ctl
 refine op_q (v := .bool true) (a' := ⟨#[(Value.iface 225 (.pointer (some a))), (Value.iface 225 (.pointer (some b))), .bool true, undef, undef, undef, .bool false, undef, undef, undef, undef, undef, undef, undef, .bool true, undef, undef, undef, undef, undef, undef, undef, undef, undef, undef, undef, undef, undef, undef, undef, undef, undef, undef, undef, undef, undef, undef, undef, undef, undef, undef, undef, undef, undef, undef, undef, undef, undef, undef, undef, undef, undef, undef, undef], []⟩) rfl rfl (by decide) (fun _ _ => rfl) (fun _ _ _ h => noE h) rfl (fun _ => ?_)
 refine op_q (v := .bool true) (a' := ⟨#[(Value.iface 225 (.pointer (some a))), (Value.iface 225 (.pointer (some b))), .bool true, undef, undef, undef, .bool false, undef, undef, undef, undef, undef, undef, undef, .bool true, .bool true, undef, undef, undef, undef, undef, undef, undef, undef, undef, undef, undef, undef, undef, undef, undef, undef, undef, undef, undef, undef, undef, undef, undef, undef, undef, undef, undef, undef, undef, undef, undef, undef, undef, undef, undef, undef, undef, undef], []⟩) rfl rfl (by decide) (fun _ _ => rfl) (fun _ _ _ h => noE h) rfl (fun _ => ?_)
 refine op_q (v := (Value.iface 225 (.pointer (some a)))) (a' := ⟨#[(Value.iface 225 (.pointer (some a))), (Value.iface 225 (.pointer (some b))), .bool true, undef, undef, undef, .bool false, undef, undef, undef, undef, undef, undef, undef, .bool true, .bool true, (Value.iface 225 (.pointer (some a))), undef, undef, undef, undef, undef, undef, undef, undef, undef, undef, undef, undef, undef, undef, undef, undef, undef, undef, undef, undef, undef, undef, undef, undef, undef, undef, undef, undef, undef, undef, undef, undef, undef, undef, undef, undef, undef], []⟩) rfl rfl (by decide) (fun _ _ => rfl) (fun _ _ _ h => noE h) rfl (fun _ => ?_)
 refine op_q (v := (Value.iface 225 (.pointer (some b)))) (a' := ⟨#[(Value.iface 225 (.pointer (some a))), (Value.iface 225 (.pointer (some b))), .bool true, undef, undef, undef, .bool false, undef, undef, undef, undef, undef, undef, undef, .bool true, .bool true, (Value.iface 225 (.pointer (some a))), (Value.iface 225 (.pointer (some b))), undef, undef, undef, undef, undef, undef, undef, undef, undef, undef, undef, undef, undef, undef, undef, undef, undef, undef, undef, undef, undef, undef, undef, undef, undef, undef, undef, undef, undef, undef, undef, undef, undef, undef, undef, undef], []⟩) rfl rfl (by decide) (fun _ _ => rfl) (fun _ _ _ h => noE h) rfl (fun _ => ?_)
 refine op_q (v := .bool false) (a' := ⟨#[(Value.iface 225 (.pointer (some a))), (Value.iface 225 (.pointer (some b))), .bool true, undef, undef, undef, .bool false, undef, undef, undef, undef, undef, undef, undef, .bool true, .bool true, (Value.iface 225 (.pointer (some a))), (Value.iface 225 (.pointer (some b))), .bool false, undef, undef, undef, undef, undef, undef, undef, undef, undef, undef, undef, undef, undef, undef, undef, undef, undef, undef, undef, undef, undef, undef, undef, undef, undef, undef, undef, undef, undef, undef, undef, undef, undef, undef, undef], []⟩) rfl rfl (by decide) (fun w₁ h₁ => qkf (s := binOp .eql 146 (Value.iface 225 (.pointer (some a))) (Value.iface 225 (.pointer (some b)))) (heq w₁ h₁)) (fun w₁ h₁ => qn7 (s := binOp .eql 146 (Value.iface 225 (.pointer (some a))) (Value.iface 225 (.pointer (some b)))) (eqE w₁ h₁)) rfl (fun _ => ?_)
 refine op_q (v := .bool false) (a' := ⟨#[(Value.iface 225 (.pointer (some a))), (Value.iface 225 (.pointer (some b))), .bool true, undef, undef, undef, .bool false, undef, undef, undef, undef, undef, undef, undef, .bool true, .bool true, (Value.iface 225 (.pointer (some a))), (Value.iface 225 (.pointer (some b))), .bool false, .bool false, undef, undef, undef, undef, undef, undef, undef, undef, undef, undef, undef, undef, undef, undef, undef, undef, undef, undef, undef, undef, undef, undef, undef, undef, undef, undef, undef, undef, undef, undef, undef, undef, undef, undef], []⟩) rfl rfl (by decide) (fun _ _ => rfl) (fun _ _ _ h => noE h) rfl (fun _ => ?_)
 b_ctl
 b_cond false
 b_ctl
 b_ctl
 b_ctl
 b_ctl
 refine op_q (v := (Value.iface 225 (.pointer (some a)))) (a' := ⟨#[(Value.iface 225 (.pointer (some a))), (Value.iface 225 (.pointer (some b))), .bool true, undef, undef, undef, .bool false, undef, undef, undef, undef, undef, undef, undef, .bool true, .bool true, (Value.iface 225 (.pointer (some a))), (Value.iface 225 (.pointer (some b))), .bool false, .bool false, undef, (Value.iface 225 (.pointer (some a))), undef, undef, undef, undef, undef, undef, undef, undef, undef, undef, undef, undef, undef, undef, undef, undef, undef, undef, undef, undef, undef, undef, undef, undef, undef, undef, undef, undef, undef, undef, undef, undef], []⟩) rfl rfl (by decide) (fun _ _ => rfl) (fun _ _ _ h => noE h) rfl (fun _ => ?_)
 refine op_q (v := (.tuple #[.nilIface, .bool false])) (a' := ⟨#[(Value.iface 225 (.pointer (some a))), (Value.iface 225 (.pointer (some b))), .bool true, undef, undef, undef, .bool false, undef, undef, undef, undef, undef, undef, undef, .bool true, .bool true, (Value.iface 225 (.pointer (some a))), (Value.iface 225 (.pointer (some b))), .bool false, .bool false, undef, (Value.iface 225 (.pointer (some a))), (.tuple #[.nilIface, .bool false]), undef, undef, undef, undef, undef, undef, undef, undef, undef, undef, undef, undef, undef, undef, undef, undef, undef, undef, undef, undef, undef, undef, undef, undef, undef, undef, undef, undef, undef, undef, undef], []⟩) rfl rfl (by decide) (fun w₁ _ => qkf (s := Instr.typeAssert (Value.iface 225 (.pointer (some a))) 146 207 true) (noIs _ _ w₁)) (fun w₁ _ => qn7 (s := Instr.typeAssert (Value.iface 225 (.pointer (some a))) 146 207 true) (evsT (qh8 _ _ _) (noIs _ _ w₁))) rfl (fun _ => ?_)
 refine op_q (v := (.tuple #[.nilIface, .bool false])) (a' := ⟨#[(Value.iface 225 (.pointer (some a))), (Value.iface 225 (.pointer (some b))), .bool true, undef, undef, undef, .bool false, undef, undef, undef, undef, undef, undef, undef, .bool true, .bool true, (Value.iface 225 (.pointer (some a))), (Value.iface 225 (.pointer (some b))), .bool false, .bool false, (.tuple #[.nilIface, .bool false]), (Value.iface 225 (.pointer (some a))), (.tuple #[.nilIface, .bool false]), undef, undef, undef, undef, undef, undef, undef, undef, undef, undef, undef, undef, undef, undef, undef, undef, undef, undef, undef, undef, undef, undef, undef, undef, undef, undef, undef, undef, undef, undef, undef], []⟩) rfl rfl (by decide) (fun _ _ => rfl) (fun _ _ _ h => noE h) rfl (fun _ => ?_)
 refine op_q (v := .nilIface) (a' := ⟨#[(Value.iface 225 (.pointer (some a))), (Value.iface 225 (.pointer (some b))), .bool true, undef, undef, undef, .bool false, undef, undef, undef, undef, undef, undef, undef, .bool true, .bool true, (Value.iface 225 (.pointer (some a))), (Value.iface 225 (.pointer (some b))), .bool false, .bool false, (.tuple #[.nilIface, .bool false]), (Value.iface 225 (.pointer (some a))), (.tuple #[.nilIface, .bool false]), .nilIface, undef, undef, undef, undef, undef, undef, undef, undef, undef, undef, undef, undef, undef, undef, undef, undef, undef, undef, undef, undef, undef, undef, undef, undef, undef, undef, undef, undef, undef, undef], []⟩) rfl rfl (by decide) (fun _ _ => rfl) (fun _ _ _ h => noE h) rfl (fun _ => ?_)
 refine op_q (v := .bool false) (a' := ⟨#[(Value.iface 225 (.pointer (some a))), (Value.iface 225 (.pointer (some b))), .bool true, undef, undef, undef, .bool false, undef, undef, undef, undef, undef, undef, undef, .bool true, .bool true, (Value.iface 225 (.pointer (some a))), (Value.iface 225 (.pointer (some b))), .bool false, .bool false, (.tuple #[.nilIface, .bool false]), (Value.iface 225 (.pointer (some a))), (.tuple #[.nilIface, .bool false]), .nilIface, .bool false, undef, undef, undef, undef, undef, undef, undef, undef, undef, undef, undef, undef, undef, undef, undef, undef, undef, undef, undef, undef, undef, undef, undef, undef, undef, undef, undef, undef, undef], []⟩) rfl rfl (by decide) (fun _ _ => rfl) (fun _ _ _ h => noE h) rfl (fun _ => ?_)
 refine op_q (v := .nilIface) (a' := ⟨#[(Value.iface 225 (.pointer (some a))), (Value.iface 225 (.pointer (some b))), .bool true, undef, undef, undef, .bool false, .nilIface, undef, undef, undef, undef, undef, undef, .bool true, .bool true, (Value.iface 225 (.pointer (some a))), (Value.iface 225 (.pointer (some b))), .bool false, .bool false, (.tuple #[.nilIface, .bool false]), (Value.iface 225 (.pointer (some a))), (.tuple #[.nilIface, .bool false]), .nilIface, .bool false, undef, undef, undef, undef, undef, undef, undef, undef, undef, undef, undef, undef, undef, undef, undef, undef, undef, undef, undef, undef, undef, undef, undef, undef, undef, undef, undef, undef, undef], []⟩) rfl rfl (by decide) (fun _ _ => rfl) (fun _ _ _ h => noE h) rfl (fun _ => ?_)
 refine op_q (v := .bool false) (a' := ⟨#[(Value.iface 225 (.pointer (some a))), (Value.iface 225 (.pointer (some b))), .bool true, undef, undef, undef, .bool false, .nilIface, .bool false, undef, undef, undef, undef, undef, .bool true, .bool true, (Value.iface 225 (.pointer (some a))), (Value.iface 225 (.pointer (some b))), .bool false, .bool false, (.tuple #[.nilIface, .bool false]), (Value.iface 225 (.pointer (some a))), (.tuple #[.nilIface, .bool false]), .nilIface, .bool false, undef, undef, undef, undef, undef, undef, undef, undef, undef, undef, undef, undef, undef, undef, undef, undef, undef, undef, undef, undef, undef, undef, undef, undef, undef, undef, undef, undef, undef], []⟩) rfl rfl (by decide) (fun _ _ => rfl) (fun _ _ _ h => noE h) rfl (fun _ => ?_)
 b_ctl
 b_ctl
 b_ctl
 refine op_q (v := .bool false) (a' := ⟨#[(Value.iface 225 (.pointer (some a))), (Value.iface 225 (.pointer (some b))), .bool true, undef, undef, undef, .bool false, .nilIface, .bool false, undef, undef, undef, undef, undef, .bool true, .bool true, (Value.iface 225 (.pointer (some a))), (Value.iface 225 (.pointer (some b))), .bool false, .bool false, (.tuple #[.nilIface, .bool false]), (Value.iface 225 (.pointer (some a))), (.tuple #[.nilIface, .bool false]), .nilIface, .bool false, .bool false, undef, undef, undef, undef, undef, undef, undef, undef, undef, undef, undef, undef, undef, undef, undef, undef, undef, undef, undef, undef, undef, undef, undef, undef, undef, undef, undef, undef], []⟩) rfl rfl (by decide) (fun _ _ => rfl) (fun _ _ _ h => noE h) rfl (fun _ => ?_)
 refine op_q (v := .bool false) (a' := ⟨#[(Value.iface 225 (.pointer (some a))), (Value.iface 225 (.pointer (some b))), .bool true, undef, undef, undef, .bool false, .nilIface, .bool false, undef, undef, undef, undef, undef, .bool true, .bool true, (Value.iface 225 (.pointer (some a))), (Value.iface 225 (.pointer (some b))), .bool false, .bool false, (.tuple #[.nilIface, .bool false]), (Value.iface 225 (.pointer (some a))), (.tuple #[.nilIface, .bool false]), .nilIface, .bool false, .bool false, .bool false, undef, undef, undef, undef, undef, undef, undef, undef, undef, undef, undef, undef, undef, undef, undef, undef, undef, undef, undef, undef, undef, undef, undef, undef, undef, undef, undef], []⟩) rfl rfl (by decide) (fun _ _ => rfl) (fun _ _ _ h => noE h) rfl (fun _ => ?_)
 refine qub (a' := ⟨#[(Value.iface 225 (.pointer (some a))), (Value.iface 225 (.pointer (some b))), .bool true, undef, undef, undef, .bool false, .nilIface, .bool false, undef, undef, undef, undef, undef, .bool true, .bool true, (Value.iface 225 (.pointer (some a))), (Value.iface 225 (.pointer (some b))), .bool false, .bool false, (.tuple #[.nilIface, .bool false]), (Value.iface 225 (.pointer (some a))), (.tuple #[.nilIface, .bool false]), .nilIface, .bool false, .bool false, .bool false, undef, undef, undef, undef, undef, undef, undef, undef, undef, undef, undef, undef, undef, undef, undef, undef, undef, undef, undef, undef, undef, undef, undef, undef, undef, undef, undef], []⟩) rfl rfl rfl (fun _ => ?_)
 refine qub (a' := ⟨#[(Value.iface 225 (.pointer (some a))), (Value.iface 225 (.pointer (some b))), .bool true, undef, undef, undef, .bool false, .nilIface, .bool false, undef, undef, undef, undef, undef, .bool true, .bool true, (Value.iface 225 (.pointer (some a))), (Value.iface 225 (.pointer (some b))), .bool false, .bool false, (.tuple #[.nilIface, .bool false]), (Value.iface 225 (.pointer (some a))), (.tuple #[.nilIface, .bool false]), .nilIface, .bool false, .bool false, .bool false, undef, undef, undef, undef, undef, undef, undef, undef, undef, undef, undef, undef, undef, undef, undef, undef, undef, undef, undef, undef, undef, undef, undef, undef, undef, undef, undef], []⟩) rfl rfl rfl (fun _ => ?_)
 refine qub (a' := ⟨#[(Value.iface 225 (.pointer (some a))), (Value.iface 225 (.pointer (some b))), .bool true, undef, undef, undef, .bool false, .nilIface, .bool false, undef, undef, undef, undef, undef, .bool true, .bool true, (Value.iface 225 (.pointer (some a))), (Value.iface 225 (.pointer (some b))), .bool false, .bool false, (.tuple #[.nilIface, .bool false]), (Value.iface 225 (.pointer (some a))), (.tuple #[.nilIface, .bool false]), .nilIface, .bool false, .bool false, .bool false, undef, undef, undef, undef, undef, undef, undef, undef, undef, undef, undef, undef, undef, undef, undef, undef, undef, undef, undef, undef, undef, undef, undef, undef, undef, undef, undef], []⟩) rfl rfl rfl (fun _ => ?_)
 refine op_q (v := .bool false) (a' := ⟨#[(Value.iface 225 (.pointer (some a))), (Value.iface 225 (.pointer (some b))), .bool true, undef, undef, undef, .bool false, .nilIface, .bool false, undef, undef, undef, undef, undef, .bool true, .bool true, (Value.iface 225 (.pointer (some a))), (Value.iface 225 (.pointer (some b))), .bool false, .bool false, (.tuple #[.nilIface, .bool false]), (Value.iface 225 (.pointer (some a))), (.tuple #[.nilIface, .bool false]), .nilIface, .bool false, .bool false, .bool false, undef, undef, undef, .bool false, undef, undef, undef, undef, undef, undef, undef, undef, undef, undef, undef, undef, undef, undef, undef, undef, undef, undef, undef, undef, undef, undef, undef], []⟩) rfl rfl (by decide) (fun _ _ => rfl) (fun _ _ _ h => noE h) rfl (fun _ => ?_)
 b_ctl
 b_cond false
 b_ctl
 b_ctl
 b_ctl
 refine op_q (v := (Value.iface 225 (.pointer (some a)))) (a' := ⟨#[(Value.iface 225 (.pointer (some a))), (Value.iface 225 (.pointer (some b))), .bool true, undef, undef, undef, .bool false, .nilIface, .bool false, undef, undef, undef, undef, undef, .bool true, .bool true, (Value.iface 225 (.pointer (some a))), (Value.iface 225 (.pointer (some b))), .bool false, .bool false, (.tuple #[.nilIface, .bool false]), (Value.iface 225 (.pointer (some a))), (.tuple #[.nilIface, .bool false]), .nilIface, .bool false, .bool false, .bool false, undef, undef, undef, .bool false, (Value.iface 225 (.pointer (some a))), undef, undef, undef, undef, undef, undef, undef, undef, undef, undef, undef, undef, undef, undef, undef, undef, undef, undef, undef, undef, undef, undef], []⟩) rfl rfl (by decide) (fun _ _ => rfl) (fun _ _ _ h => noE h) rfl (fun _ => ?_)
 b_ctl
 b_ctl
 b_ctl
 b_ctl
 refine op_q (v := (.tuple #[.nilIface, .bool false])) (a' := ⟨#[(Value.iface 225 (.pointer (some a))), (Value.iface 225 (.pointer (some b))), .bool true, undef, undef, undef, .bool false, .nilIface, .bool false, undef, undef, undef, undef, undef, .bool true, .bool true, (Value.iface 225 (.pointer (some a))), (Value.iface 225 (.pointer (some b))), .bool false, .bool false, (.tuple #[.nilIface, .bool false]), (Value.iface 225 (.pointer (some a))), (.tuple #[.nilIface, .bool false]), .nilIface, .bool false, .bool false, .bool false, undef, undef, undef, .bool false, (Value.iface 225 (.pointer (some a))), (.tuple #[.nilIface, .bool false]), undef, undef, undef, undef, undef, undef, undef, undef, undef, undef, undef, undef, undef, undef, undef, undef, undef, undef, undef, undef, undef], []⟩) rfl rfl (by decide) (fun w₁ _ => qkf (s := Instr.typeAssert (Value.iface 225 (.pointer (some a))) 146 210 true) (qsp _ _ w₁)) (fun w₁ _ => qn7 (s := Instr.typeAssert (Value.iface 225 (.pointer (some a))) 146 210 true) (evsT (qh8 _ _ _) (qsp _ _ w₁))) rfl (fun _ => ?_)
 refine op_q (v := .bool false) (a' := ⟨#[(Value.iface 225 (.pointer (some a))), (Value.iface 225 (.pointer (some b))), .bool true, undef, undef, undef, .bool false, .nilIface, .bool false, undef, undef, undef, undef, undef, .bool true, .bool true, (Value.iface 225 (.pointer (some a))), (Value.iface 225 (.pointer (some b))), .bool false, .bool false, (.tuple #[.nilIface, .bool false]), (Value.iface 225 (.pointer (some a))), (.tuple #[.nilIface, .bool false]), .nilIface, .bool false, .bool false, .bool false, undef, undef, undef, .bool false, (Value.iface 225 (.pointer (some a))), (.tuple #[.nilIface, .bool false]), .bool false, undef, undef, undef, undef, undef, undef, undef, undef, undef, undef, undef, undef, undef, undef, undef, undef, undef, undef, undef, undef], []⟩) rfl rfl (by decide) (fun _ _ => rfl) (fun _ _ _ h => noE h) rfl (fun _ => ?_)
 refine op_q (v := .nilIface) (a' := ⟨#[(Value.iface 225 (.pointer (some a))), (Value.iface 225 (.pointer (some b))), .bool true, undef, undef, undef, .bool false, .nilIface, .bool false, undef, undef, undef, undef, undef, .bool true, .bool true, (Value.iface 225 (.pointer (some a))), (Value.iface 225 (.pointer (some b))), .bool false, .bool false, (.tuple #[.nilIface, .bool false]), (Value.iface 225 (.pointer (some a))), (.tuple #[.nilIface, .bool false]), .nilIface, .bool false, .bool false, .bool false, undef, undef, undef, .bool false, (Value.iface 225 (.pointer (some a))), (.tuple #[.nilIface, .bool false]), .bool false, .nilIface, undef, undef, undef, undef, undef, undef, undef, undef, undef, undef, undef, undef, undef, undef, undef, undef, undef, undef, undef], []⟩) rfl rfl (by decide) (fun _ _ => rfl) (fun _ _ _ h => noE h) rfl (fun _ => ?_)
 b_ctl
 b_cond false
 b_ctl
 b_ctl
 refine op_q (v := (.tuple #[.nilIface, .bool false])) (a' := ⟨#[(Value.iface 225 (.pointer (some a))), (Value.iface 225 (.pointer (some b))), .bool true, undef, undef, undef, .bool false, .nilIface, .bool false, undef, undef, undef, undef, undef, .bool true, .bool true, (Value.iface 225 (.pointer (some a))), (Value.iface 225 (.pointer (some b))), .bool false, .bool false, (.tuple #[.nilIface, .bool false]), (Value.iface 225 (.pointer (some a))), (.tuple #[.nilIface, .bool false]), .nilIface, .bool false, .bool false, .bool false, undef, undef, undef, .bool false, (Value.iface 225 (.pointer (some a))), (.tuple #[.nilIface, .bool false]), .bool false, .nilIface, undef, undef, undef, undef, (.tuple #[.nilIface, .bool false]), undef, undef, undef, undef, undef, undef, undef, undef, undef, undef, undef, undef, undef, undef], []⟩) rfl rfl (by decide) (fun w₁ _ => qkf (s := Instr.typeAssert (Value.iface 225 (.pointer (some a))) 146 212 true) (qpa _ _ w₁)) (fun w₁ _ => qn7 (s := Instr.typeAssert (Value.iface 225 (.pointer (some a))) 146 212 true) (evsT (qh8 _ _ _) (qpa _ _ w₁))) rfl (fun _ => ?_)
 refine op_q (v := .bool false) (a' := ⟨#[(Value.iface 225 (.pointer (some a))), (Value.iface 225 (.pointer (some b))), .bool true, undef, undef, undef, .bool false, .nilIface, .bool false, undef, undef, undef, undef, undef, .bool true, .bool true, (Value.iface 225 (.pointer (some a))), (Value.iface 225 (.pointer (some b))), .bool false, .bool false, (.tuple #[.nilIface, .bool false]), (Value.iface 225 (.pointer (some a))), (.tuple #[.nilIface, .bool false]), .nilIface, .bool false, .bool false, .bool false, undef, undef, undef, .bool false, (Value.iface 225 (.pointer (some a))), (.tuple #[.nilIface, .bool false]), .bool false, .nilIface, undef, undef, undef, undef, (.tuple #[.nilIface, .bool false]), .bool false, undef, undef, undef, undef, undef, undef, undef, undef, undef, undef, undef, undef, undef], []⟩) rfl rfl (by decide) (fun _ _ => rfl) (fun _ _ _ h => noE h) rfl (fun _ => ?_)
 refine op_q (v := .nilIface) (a' := ⟨#[(Value.iface 225 (.pointer (some a))), (Value.iface 225 (.pointer (some b))), .bool true, undef, undef, undef, .bool false, .nilIface, .bool false, undef, undef, undef, undef, undef, .bool true, .bool true, (Value.iface 225 (.pointer (some a))), (Value.iface 225 (.pointer (some b))), .bool false, .bool false, (.tuple #[.nilIface, .bool false]), (Value.iface 225 (.pointer (some a))), (.tuple #[.nilIface, .bool false]), .nilIface, .bool false, .bool false, .bool false, undef, undef, undef, .bool false, (Value.iface 225 (.pointer (some a))), (.tuple #[.nilIface, .bool false]), .bool false, .nilIface, undef, undef, undef, undef, (.tuple #[.nilIface, .bool false]), .bool false, .nilIface, undef, undef, undef, undef, undef, undef, undef, undef, undef, undef, undef, undef], []⟩) rfl rfl (by decide) (fun _ _ => rfl) (fun _ _ _ h => noE h) rfl (fun _ => ?_)
 b_ctl
 b_cond false
 b_ctl
 b_ctl
 refine op_q (v := (Value.iface 225 (.pointer (some a)))) (a' := ⟨#[(Value.iface 225 (.pointer (some a))), (Value.iface 225 (.pointer (some b))), .bool true, undef, undef, undef, .bool false, .nilIface, .bool false, undef, undef, undef, undef, (Value.iface 225 (.pointer (some a))), .bool true, .bool true, (Value.iface 225 (.pointer (some a))), (Value.iface 225 (.pointer (some b))), .bool false, .bool false, (.tuple #[.nilIface, .bool false]), (Value.iface 225 (.pointer (some a))), (.tuple #[.nilIface, .bool false]), .nilIface, .bool false, .bool false, .bool false, undef, undef, undef, .bool false, (Value.iface 225 (.pointer (some a))), (.tuple #[.nilIface, .bool false]), .bool false, .nilIface, undef, undef, undef, undef, (.tuple #[.nilIface, .bool false]), .bool false, .nilIface, undef, undef, undef, undef, undef, undef, undef, undef, undef, undef, undef, undef], []⟩) rfl rfl (by decide) (fun _ _ => rfl) (fun _ _ _ h => noE h) rfl (fun _ => ?_)
 b_ctl
 b_ctl
 b_ctl
 refine op_q (v := .bool false) (a' := ⟨#[(Value.iface 225 (.pointer (some a))), (Value.iface 225 (.pointer (some b))), .bool true, undef, undef, undef, .bool false, .nilIface, .bool false, undef, undef, undef, undef, (Value.iface 225 (.pointer (some a))), .bool true, .bool true, (Value.iface 225 (.pointer (some a))), (Value.iface 225 (.pointer (some b))), .bool false, .bool false, (.tuple #[.nilIface, .bool false]), (Value.iface 225 (.pointer (some a))), (.tuple #[.nilIface, .bool false]), .nilIface, .bool false, .bool false, .bool false, undef, undef, undef, .bool false, (Value.iface 225 (.pointer (some a))), (.tuple #[.nilIface, .bool false]), .bool false, .nilIface, undef, undef, undef, undef, (.tuple #[.nilIface, .bool false]), .bool false, .nilIface, undef, undef, undef, undef, undef, undef, undef, undef, undef, undef, undef, undef], []⟩) rfl rfl (by decide) (fun _ _ => rfl) (fun _ _ _ h => noE h) rfl (fun _ => ?_)
 b_ctl
 refine qv6 (fun _ _ => ?_)
 refine qv7 (v := .bool false) (a' := ⟨#[(Value.iface 225 (.pointer (some a))), (Value.iface 225 (.pointer (some b))), undef, undef, .bool false, .bool true, (Value.iface 225 (.pointer (some a))), .bool false, .bool false, (Value.iface 225 (.pointer (some b))), .bool false, .bool false, undef, undef, undef, (Value.iface 225 (.pointer (some b))), (Value.iface 205 (.agg #[.pointer (some ⟨3, 225, none⟩)])), .bool true, (Value.iface 225 (.pointer (some a))), (Value.iface 225 (.pointer (some b))), .bool true, .bool false], []⟩) rfl rfl Tryz.func163 (fun w₁ => results_tmp (t := 6) rfl _ Tryz.prog w₁) (fun w₁ => events_results_tmp (t := 6) rfl _ _) rfl (fun _ => ?_)
 refine op_q (v := .bool false) (a' := ⟨#[(Value.iface 225 (.pointer (some a))), (Value.iface 225 (.pointer (some b))), undef, undef, .bool false, .bool true, (Value.iface 225 (.pointer (some a))), .bool false, .bool false, (Value.iface 225 (.pointer (some b))), .bool false, .bool false, undef, undef, undef, (Value.iface 225 (.pointer (some b))), (Value.iface 205 (.agg #[.pointer (some ⟨3, 225, none⟩)])), .bool true, (Value.iface 225 (.pointer (some a))), (Value.iface 225 (.pointer (some b))), .bool true, .bool false], []⟩) rfl rfl (by decide) (fun _ _ => rfl) (fun _ _ _ h => noE h) rfl (fun _ => ?_)
 b_ctl
 refine qv6 (fun _ _ => ?_)
 exact Goes.stop fun _ _ => ⟨_, _, rfl, rfl, rfl, rfl, rfl, Tryz.func135, fun w₁ => results_tmp (t := 4) rfl _ Tryz.prog w₁⟩
end IsG
namespace Eng
open Tr
theorem still_mono {P : Program} {f : FuncId} {args : Array Value} {S S' : World -> Prop} {v : Value} (h : Co.qle P f args S v) (hS : ∀ w, S' w -> S w) : Co.qle P f args S' v := by
 intro cs w
 obtain ⟨n, hn⟩ := h cs w
 refine ⟨n, ?_⟩
 have key : ∀ (n : Nat) (g : Goroutine) (w : World), Goes P true (fun _ w₁ => S w₁) Co.DQ (Co.Leave P f v cs) n g w -> Goes P true (fun _ w₁ => S' w₁) Co.DQ (Co.Leave P f v cs) n g w := by
  intro n
  induction n with
  | zero => exact fun g w h w₁ h₁ => h w₁ (hS _ h₁)
  | succ n ih =>
   intro g w h
   rcases h with h | ⟨hs, h⟩
   ·exact .inl fun w₁ h₁ => h w₁ (hS _ h₁)
   ·refine .inr ⟨hs, fun w₁ h₁ => ?_⟩
    have := h w₁ (hS _ h₁)
    revert this
    cases stepG P true g w₁ <;> simp only [GStep.goes, imp_self]
    exact fun ⟨d, x⟩ => ⟨d, ih _ _ x⟩
 exact key n _ w hn
theorem qsq {X : Cx} : ∀ {l : List Glb}, qc8 (GlX X) l -> ∀ x ∈ l, ¬ X.H x.g
 | _ :: _, h, x, hx => by
  rw [List.mem_cons] at hx
  rcases hx with rfl | hx
  ·exact h.1.nh
  ·exact qsq h.2 x hx
theorem qpb {P : Program} {f : Nat} {fn : Func} {code : Code} {vs : List Value} {v : Value} {gl : List Glb} {S : World -> Prop} (hv : v.oneCell' = true) (hf : P.funcs[f]? = some fn) (hb : fn.body = some code) (hS : ∀ w, (∀ x ∈ gl, w.heap[x.g]? = some (.cells x.cs.toArray x.T x.fz)) -> S w) (h : Co.qle P f vs.toArray S v) (hc : ∀ args w, (callFunc f args).run P w = .ok (.enter f args) w) :
  Fn P ⟨f, vs.map (fun v => .one (.lit v)), [], .sv (.one (.lit v)), [], [], gl⟩ := by
 refine ⟨fun X ρ xs hds hgl hM hk hx => ?_, hc, fun _ args w => by
  unfold callFunc
  simp only [Sem.events_bind, run_program, Result.evThen_ok, events_program, hf, hb, Option.isNone_some, Bool.false_eq_true, if_false]
  split <;> rfl⟩
 obtain rfl := qns hx
 have h' := still_mono h hS
 refine Co.qsn h' (fun w w₁ ha hw x hx => (ha.blk _ (qsq hgl x hx)).trans (hw x hx)) (qr1 hgl) (fun w₁ ha => ?_)
 exact ⟨v, ρ, rfl, ⟨rfl, hv⟩, Ext.refl ρ, fun q y hq => .inl (hk q y hq), hM.aside ha, (show WRel X X.w0 from ⟨rfl, rfl, rfl, Nat.le_refl _, fun _ _ _ => rfl⟩).aside ha⟩
end Eng
end Go.Proofs.YtfiofmaknndpcaaGreatDoor
namespace Go.Proofs.YtfiofmaknndpcaaGreatDoor
open Go.RowKit
namespace Eng
open Tr
def fwL (l : List GEntry) (n : Nat) : List Bool := (List.range n).map fun i : Nat => decide (∃ e ∈ l, e.Mode ≠ 0 /\ e.Frame = (i : Int))
theorem q47 (n : Nat) : fwL [] n = List.replicate n false := by
 unfold fwL
 rw [List.eq_replicate_iff]
 simp
theorem qip (l : List GEntry) (n : Nat) : (fwL l n).length = n := by simp [fwL]
theorem qsr (l : List GEntry) (e : GEntry) (n : Nat) : fwL (l ++ [e]) n = if e.Mode ≠ 0 /\ 0 <= e.Frame then (fwL l n).set e.Frame.toNat true else fwL l n := by
 refine List.ext_getElem? fun i => ?_
 have h0 : ∀ (l : List GEntry), (fwL l n)[i]? = if i < n then some (decide (∃ e ∈ l, e.Mode ≠ 0 /\ e.Frame = (i : Int))) else none := by
  intro l
  unfold fwL
  rw [List.getElem?_map]
  split
  ·rw [List.getElem?_range (by assumption)]; rfl
  ·rw [List.getElem?_eq_none (by simp; omega)]; rfl
 rw [h0]
 by_cases hi : i < n
 ·rw [if_pos hi]
  by_cases he : e.Mode ≠ 0 /\ 0 <= e.Frame
  ·rw [if_pos he, List.getElem?_set, qip]
   by_cases hf : e.Frame.toNat = i
   ·rw [if_pos hf, if_pos (by omega), decide_eq_true ⟨e, by simp, he.1, by omega⟩]
   ·rw [if_neg hf, h0, if_pos hi]
    congr 1
    rw [decide_eq_decide]
    constructor
    ·rintro ⟨x, hx, h1, h2⟩
     rw [List.mem_append, List.mem_singleton] at hx
     rcases hx with hx | rfl
     ·exact ⟨x, hx, h1, h2⟩
     ·omega
    ·rintro ⟨x, hx, h1, h2⟩; exact ⟨x, by simp [hx], h1, h2⟩
  ·rw [if_neg he, h0, if_pos hi]
   congr 1
   rw [decide_eq_decide]
   constructor
   ·rintro ⟨x, hx, h1, h2⟩
    rw [List.mem_append, List.mem_singleton] at hx
    rcases hx with hx | rfl
    ·exact ⟨x, hx, h1, h2⟩
    ·exact absurd ⟨h1, by omega⟩ he
   ·rintro ⟨x, hx, h1, h2⟩; exact ⟨x, by simp [hx], h1, h2⟩
 ·rw [if_neg hi]
  split
  ·rw [List.getElem?_set, qip, h0]
   split <;> (try split) <;> first | rfl | omega
  ·rw [h0, if_neg hi]
def qv8 (t : GTable) (n : Nat) : CFD := ⟨94, [.agg [ro 42 2 xe t.Entries], (SV.one (.lit (.int .i64 ((n : Int)))))], [], .sv (.one (.hd 0)), [(0, some (.row 4 1 ((fwL t.Entries n).map Tr.eB)))], [0], []⟩
theorem q8c (t : GTable) (n : Nat) (hl : t.Entries.length <= 1048576) (hn : n <= 1048576) (hok : ∀ e ∈ t.Entries, okE n e) : Fn Tryz.prog (qv8 t n) := by
 refine qm qf Tryz.func94 rfl Tryz.call94 Tryz.ntmps94 Tryz.results94 rfl rfl rfl rfl ?_
 intro X ρ0 hb_ hgl_
 dsimp only [qv8]
 try refine nrm ?_
 repeat' (refine qj ?_; first | refine st1 ?_ | (first | ((first | refine qc qf (inps := []) rfl ?_ ?_); rotate_left; (try refine nrm ?_); rotate_right) | refine ret3 ?_ | refine end3 ?_) | (refine ql rfl trivial ?_ ?_ <;> intro hc_ <;> (try simp only [qg, inB, reduceCtorEq, cds] at hc_) <;> (try (first | contradiction | (exfalso; omega)))) | refine qi (And.intro ?_ (wk3 ?_)))
 all_goals (first | refine qj ?_ | (try (focus ((try refine nrmO ?_); (repeat' (first | exact True.intro | apply And.intro)); all_goals (try (intro (hg_ : _ = true); (try simp only [qg, inB, reduceCtorEq, cds] at hg_); (repeat' (first | exact True.intro | apply And.intro)))); all_goals (first | exact ob1 | skip)))))
 refine qaf 14519 (by dsimp only [qay] <;> exact rfl) ?_
 refine qai (t.Entries.length) (fun i => True) (fun i => [(13, (TV.sv (.one (.lit (.int .i64 (i)))))), (5, (TV.sv (.one (.hd 9))))]) (fun i => [(9, some (.row 4 1 ((fwL (t.Entries.take i) n).map Tr.eB)))]) ?_ ?_ ?_
 rotate_left
 ·first | trivial | simp
 (dsimp only [zx, yx, Int.toNat_natCast, ro, Nat.reduceAdd, Nat.reduceMul, Nat.zero_add, List.map, putT, app, zn, gOb, argT, keys, yg, dropped, gAnd, wB, rnT, rnS, rnC, rnCs, rnSs, rnM, rnB, rnN, rn, lk, St.over, ded, delL, jo, menT, jw, menS, jv, menC, hasN, resT, SV.cells]; refine wk3 ?_; (focus ((try refine nrmO ?_); (repeat' (first | exact True.intro | apply And.intro)); all_goals (try (intro (hg_ : _ = true); (try simp only [qg, inB, reduceCtorEq, cds] at hg_); (repeat' (first | exact True.intro | apply And.intro)))); all_goals (first | exact ob1 | exact rfl | skip))))
 rotate_right
 intro i hi_ hiI_
 dsimp only [zx, yx, Int.toNat_natCast, ro, Nat.reduceAdd, Nat.reduceMul, Nat.zero_add, List.map, putT, app, zn, gOb, argT, keys, yg, dropped, gAnd, wB, rnT, rnS, rnC, rnCs, rnSs, rnM, rnB, rnN, rn, lk, St.over, ded, delL, jo, menT, jw, menS, jv, menC, hasN, resT, SV.cells]
 repeat' (refine qj ?_; first | refine st1 ?_ | (first | ((first | refine qc (id := 4) qf (inps := [.elem (xe (t.Entries.getD i ⟨0, 0⟩))]) rfl ?_ ?_ | refine qc (id := 5) qf (inps := [.call (y7 (t.Entries.getD i ⟨0, 0⟩).Mode (t.Entries.getD i ⟨0, 0⟩).Frame)]) rfl ?_ ?_ | refine qc (id := 6) qf (inps := [.elem (Tr.eB ((fwL (t.Entries.take i) n).getD (t.Entries.getD i ⟨0, 0⟩).Frame.toNat false))]) rfl ?_ ?_ | refine qc qf (inps := []) rfl ?_ ?_); rotate_left; (try dsimp only [y7]); (try refine nrm ?_); rotate_right) | refine ret3 ?_ | refine end3 ?_) | (refine ql rfl trivial ?_ ?_ <;> intro hc_ <;> (try simp only [qg, inB, reduceCtorEq, cds] at hc_) <;> (try (first | contradiction | (exfalso; omega)))) | refine qi (And.intro ?_ (wk3 ?_)))
 all_goals (first | refine qj ?_ | (try (focus ((try refine nrmO ?_); (repeat' (first | exact True.intro | apply And.intro)); all_goals (try (intro (hg_ : _ = true); (try simp only [qg, inB, reduceCtorEq, cds] at hg_); (repeat' (first | exact True.intro | apply And.intro)))); all_goals (first | exact ob1 | exact qa3 _ _ | skip)))))
 ·have := hok _ (getD_in (l := t.Entries) (i := i) (d := ⟨0, 0⟩) (by omega)); unfold okE at this; omega
 ·have := hok _ (getD_in (l := t.Entries) (i := i) (d := ⟨0, 0⟩) (by omega)); unfold okE at this; rw [List.length_map, qip]; omega
 ·have := hok _ (getD_in (l := t.Entries) (i := i) (d := ⟨0, 0⟩) (by omega)); unfold okE at this; exact qdo (by rw [qip]; omega)
 ·have := hok _ (getD_in (l := t.Entries) (i := i) (d := ⟨0, 0⟩) (by omega)); unfold okE at this
  rw [qcb _ ⟨0, 0⟩ (by omega), qsr, if_pos ⟨hc_, by omega⟩]
  exact List.map_set.symm
 ·rw [qcb _ ⟨0, 0⟩ (by omega), qsr, if_neg (fun h => h.1 hc_)]
 ·rw [List.take_of_length_le (by omega)]
 ·rw [List.take_zero, q47, List.map_replicate]; rfl
def qkg (a b : List Bool) : CFD := ⟨93, [.one (ro 4 1 Tr.eB a), .one (ro 4 1 Tr.eB b)], [], (TV.sv (.one (.lit (.bool (decide (a = b)))))), [], [], []⟩
theorem qxv (a b : List Bool) (hl : a.length <= 1048576) (hb : b.length <= 1048576) : Fn Tryz.prog (qkg a b) := by
 refine qm qf Tryz.func93 rfl Tryz.call93 Tryz.ntmps93 Tryz.results93 rfl rfl rfl rfl ?_
 intro X ρ0 hb_ hgl_
 dsimp only [qkg]
 try refine nrm ?_
 repeat' (refine qj ?_; first | refine st1 ?_ | (first | ((first | refine qc qf (inps := []) rfl ?_ ?_); rotate_left; (try refine nrm ?_); rotate_right) | refine ret3 ?_ | refine end3 ?_) | (refine ql rfl trivial ?_ ?_ <;> intro hc_ <;> (try simp only [qg, inB, reduceCtorEq, cds] at hc_) <;> (try (first | contradiction | (exfalso; omega)))) | refine qi (And.intro ?_ (wk3 ?_)))
 all_goals (first | refine qj ?_ | (try (focus ((try refine nrmO ?_); (repeat' (first | exact True.intro | apply And.intro)); all_goals (try (intro (hg_ : _ = true); (try simp only [qg, inB, reduceCtorEq, cds] at hg_); (repeat' (first | exact True.intro | apply And.intro)))); all_goals (first | exact ob1 | skip)))))
 ·exact bf fun h => hc_ (by rw [h])
 have hlen := hc_
 refine qaf 12339 (by dsimp only [qay] <;> exact rfl) ?_
 refine qai (a.length) (fun i => a.take i = b.take i) (fun i => [(13, (TV.sv (.one (.lit (.int .i64 (i))))))]) (fun i => []) ?_ ?_ ?_
 rotate_left
 ·first | trivial | simp
 (dsimp only [zx, yx, Int.toNat_natCast, ro, Nat.reduceAdd, Nat.reduceMul, Nat.zero_add, List.map, putT, app, zn, gOb, argT, keys, yg, dropped, gAnd, wB, rnT, rnS, rnC, rnCs, rnSs, rnM, rnB, rnN, rn, lk, St.over, ded, delL, jo, menT, jw, menS, jv, menC, hasN, resT, SV.cells]; refine wk3 ?_; (focus ((try refine nrmO ?_); (repeat' (first | exact True.intro | apply And.intro)); all_goals (try (intro (hg_ : _ = true); (try simp only [qg, inB, reduceCtorEq, cds] at hg_); (repeat' (first | exact True.intro | apply And.intro)))); all_goals (first | exact ob1 | exact rfl | skip))))
 rotate_right
 intro i hi_ hiI_
 dsimp only [zx, yx, Int.toNat_natCast, ro, Nat.reduceAdd, Nat.reduceMul, Nat.zero_add, List.map, putT, app, zn, gOb, argT, keys, yg, dropped, gAnd, wB, rnT, rnS, rnC, rnCs, rnSs, rnM, rnB, rnN, rn, lk, St.over, ded, delL, jo, menT, jw, menS, jv, menC, hasN, resT, SV.cells]
 repeat' (refine qj ?_; first | refine st1 ?_ | (first | ((first | refine qak (id := 6) (inps := [.elem (Tr.eB (a.getD i false)), .elem (Tr.eB (b.getD i false))]) qf (by kernel_rfl) rfl rfl (by kernel_rfl) rfl rfl rfl rfl ?_ ?_ | refine qc qf (inps := []) rfl ?_ ?_); rotate_left; (try refine nrm ?_); rotate_right) | refine ret3 ?_ | refine end3 ?_) | (refine ql rfl trivial ?_ ?_ <;> intro hc_ <;> (try simp only [qg, inB, reduceCtorEq, cds] at hc_) <;> (try (first | contradiction | (exfalso; omega)))) | refine qi (And.intro ?_ (wk3 ?_)))
 all_goals (first | refine qj ?_ | (try (focus ((try refine nrmO ?_); (repeat' (first | exact True.intro | apply And.intro)); all_goals (try (intro (hg_ : _ = true); (try simp only [qg, inB, reduceCtorEq, cds] at hg_); (repeat' (first | exact True.intro | apply And.intro)))); all_goals (first | exact ob1 | skip)))))
 ·refine bf fun h => ?_
  subst h
  simp at hc_
 ·rw [qcb a false (by omega), qcb b false (by omega), hiI_]
  simpa using hc_
 ·refine bt ?_
  rw [List.take_of_length_le (by omega), List.take_of_length_le (by omega)] at hiI_
  exact hiI_
theorem qcr (f : Int) : ∀ (i : Nat) (l : List GEntry), 0 < (qa6 f i l).length ↔ ∃ e ∈ l, e.Mode ≠ 0 /\ e.Frame = f
 | _, [] => by simp [qa6]
 | i, e :: l => by
  have ih := qcr f (i + 1) l
  show 0 < (_ ++ qa6 f (i + 1) l).length ↔ _
  rw [List.length_append]
  by_cases h : e.Mode ≠ 0 /\ e.Frame = f
  ·rw [if_pos h]
   exact ⟨fun _ => ⟨e, by simp, h⟩, fun _ => by simp; omega⟩
  ·rw [if_neg h]
   simp only [List.length_nil, Nat.zero_add, ih]
   constructor
   ·rintro ⟨x, hx, h1⟩; exact ⟨x, by simp [hx], h1⟩
   ·rintro ⟨x, hx, h1⟩
    rw [List.mem_cons] at hx
    rcases hx with rfl | hx
    ·exact absurd h1 h
    ·exact ⟨x, hx, h1⟩
theorem qey (m : GMachine) : qih m ↔ m.Frames.Used = fwL m.Table.Entries m.Frames.Used.length := by
 have h0 : ∀ i, i < m.Frames.Used.length -> (fwL m.Table.Entries m.Frames.Used.length)[i]? = some (decide (0 < (qaq m.Table (i : Int)).length)) := by
  intro i hi
  unfold fwL qaq
  rw [List.getElem?_map, List.getElem?_range hi, Option.map_some]
  congr 1
  rw [decide_eq_decide, qcr]
 constructor
 ·intro h
  refine List.ext_getElem? fun i => ?_
  rcases Nat.lt_or_ge i m.Frames.Used.length with hi | hi
  ·rw [h i hi, h0 i hi]
  ·rw [List.getElem?_eq_none hi, List.getElem?_eq_none (by rw [qip]; exact hi)]
 ·intro h i hi
  rw [← h0 i hi, ← h]
structure szM (m : GMachine) : Prop where
 c : m.Frames.Cells.length <= 1048576
 u : m.Frames.Used.length <= 1048576
 r : ∀ r ∈ m.Frames.Cells, r.length <= 1048576
 e : m.Table.Entries.length <= 1048576
def qlf (m : GMachine) : CFD := ⟨52, [.agg [ro 33 1 xw m.Frames.Cells, ro 4 1 Tr.eB m.Frames.Used, ro 42 2 xe m.Table.Entries]], [], (TV.sv (.one (.lit (.bool (qb6 m))))), [], [], []⟩
theorem qv9 (m : GMachine) (hs : szM m) : Fn Tryz.prog (qlf m) := by
 refine qm qf Tryz.func52 rfl Tryz.call52 Tryz.ntmps52 Tryz.results52 rfl rfl rfl rfl ?_
 intro X ρ0 hb_ hgl_
 dsimp only [qlf]
 try refine nrm ?_
 repeat' (refine qj ?_; first | refine st1 ?_ | (first | ((first | refine qc (id := 1) qf (inps := [.call (qdw m.Frames), .call (qg6 m.Table m.Frames.Used.length)]) rfl ?_ ?_ | refine qc qf (inps := []) rfl ?_ ?_); rotate_left; (try dsimp only [qdw, qg6]); (try refine nrm ?_); rotate_right) | refine ret3 ?_ | refine end3 ?_) | (refine ql rfl trivial ?_ ?_ <;> intro hc_ <;> (try simp only [qg, inB, reduceCtorEq, cds] at hc_) <;> (try (first | contradiction | (exfalso; omega)))) | refine qi (And.intro ?_ (wk3 ?_)))
 all_goals (first | refine qj ?_ | (try (focus ((try refine nrmO ?_); (repeat' (first | exact True.intro | apply And.intro)); all_goals (try (intro (hg_ : _ = true); (try simp only [qg, inB, reduceCtorEq, cds] at hg_); (repeat' (first | exact True.intro | apply And.intro)))); all_goals (first | exact ob1 | exact qke _ hs.c hs.u hs.r | exact qsl _ _ hs.e | skip)))))
 ·refine bf fun h => ?_
  rcases hc_ with hc_ | hc_
  ·rw [show qdu m.Frames = true from decide_eq_true h.1] at hc_; cases hc_
  ·rw [h.1.2.1, h.2.1] at hc_; cases hc_
 have hok := of_decide_eq_true hc_.1
 repeat' (refine qj ?_; first | refine st1 ?_ | (first | ((first | refine qak (id := 3) (inps := [.call (qv8 m.Table m.Frames.Used.length), .call (qkg m.Frames.Used (fwL m.Table.Entries m.Frames.Used.length))]) qf (by kernel_rfl) rfl rfl (by kernel_rfl) rfl rfl rfl rfl ?_ ?_ | refine qc qf (inps := []) rfl ?_ ?_); rotate_left; (try dsimp only [qkg, qv8]); (try refine nrm ?_); rotate_right) | refine ret3 ?_ | refine end3 ?_) | (refine ql rfl trivial ?_ ?_ <;> intro hc_ <;> (try simp only [qg, inB, reduceCtorEq, cds] at hc_) <;> (try (first | contradiction | (exfalso; omega)))) | refine qi (And.intro ?_ (wk3 ?_)))
 all_goals (first | refine qj ?_ | (try (focus ((try refine nrmO ?_); (repeat' (first | exact True.intro | apply And.intro)); all_goals (try (intro (hg_ : _ = true); (try simp only [qg, inB, reduceCtorEq, cds] at hg_); (repeat' (first | exact True.intro | apply And.intro)))); all_goals (first | exact ob1 | exact qxv _ _ hs.u (by rw [qip]; exact hs.u) | exact q8c _ _ hs.e hs.u (of_decide_eq_true hc_.2).1 | skip)))))
 refine congrArg Value.bool ?_
 show _ = decide (okM m)
 rw [decide_eq_decide]
 exact ⟨fun h => ⟨hok, by rw [← hok.2.1]; exact hc_.2, (qey m).2 h⟩, fun h => (qey m).1 h.2.2⟩
def qcg (m : GMachine) : CFD := ⟨82, [.agg [ro 33 1 xw m.Frames.Cells, ro 4 1 Tr.eB m.Frames.Used, ro 42 2 xe m.Table.Entries]], [], .sv (.agg [.hd 0, .hd 1, .hd 2]),
 [(0, some (.row 33 1 (m.Frames.Cells.map xw))), (1, some (.row 4 1 (m.Frames.Used.map Tr.eB))), (2, some (.row 42 2 (m.Table.Entries.map xe)))], [0, 1, 2], []⟩
theorem qgp (m : GMachine) (hs : szM m) : Fn Tryz.prog (qcg m) := by
 refine qm qf Tryz.func82 rfl Tryz.call82 Tryz.ntmps82 Tryz.results82 rfl rfl rfl rfl ?_
 intro X ρ0 hb_ hgl_
 dsimp only [qcg]
 try refine nrm ?_
 repeat' (refine qj ?_; first | refine st1 ?_ | (first | ((first | refine qak (id := 1) (inps := [.call (qe2 m.Frames), .call (qgo m.Table.Entries)]) qf (by kernel_rfl) rfl rfl (by kernel_rfl) rfl rfl rfl rfl ?_ ?_ | refine qc qf (inps := []) rfl ?_ ?_); rotate_left; (try dsimp only [qgo, qe2]); (try refine nrm ?_); rotate_right) | refine ret3 ?_ | refine end3 ?_) | (refine ql rfl trivial ?_ ?_ <;> intro hc_ <;> (try simp only [qg, inB, reduceCtorEq, cds] at hc_) <;> (try (first | contradiction | (exfalso; omega)))) | refine qi (And.intro ?_ (wk3 ?_)))
 all_goals (first | refine qj ?_ | (try (focus ((try refine nrmO ?_); (repeat' (first | exact True.intro | apply And.intro)); all_goals (try (intro (hg_ : _ = true); (try simp only [qg, inB, reduceCtorEq, cds] at hg_); (repeat' (first | exact True.intro | apply And.intro)))); all_goals (first | exact ob1 | exact qld _ hs.c hs.u hs.r | exact qo9 _ hs.e | skip)))))
def eP (a : Addr) : Value := .iface 225 (.pointer (some a))
def gP (a : Addr) (ty : Nat) : Glb := ⟨2, [eP a], ty, (0, 0)⟩
def qcs (m : GMachine) (page : Int) : Prop := okM m /\ (qh m.Table page).Mode ≠ 0
instance (m : GMachine) (page : Int) : Decidable (qcs m page) := by unfold qcs; infer_instance
def mapE (m : GMachine) (page : Int) : GEntry := if qcs m page then qh m.Table page else ⟨0, 0⟩
def errP (a : Addr) (m : GMachine) (page : Int) : Value := if qcs m page then .nilIface else eP a
def qkh (a : Addr) (ty : Nat) (m : GMachine) (page : Int) : CFD := ⟨132, [.agg [ro 33 1 xw m.Frames.Cells, ro 4 1 Tr.eB m.Frames.Used, ro 42 2 xe m.Table.Entries], (SV.one (.lit (.int .i64 (page))))], [],
 .tup [.agg [(CV.lit (.int .i64 ((mapE m page).Mode))), (CV.lit (.int .i64 ((mapE m page).Frame)))], .one (.lit (errP a m page))], [], [], [gP a ty]⟩
theorem qpc (a : Addr) (ty : Nat) (m : GMachine) (page : Int) (hs : szM m) : Fn Tryz.prog (qkh a ty m page) := by
 refine qm qf Tryz.func132 rfl Tryz.call132 Tryz.ntmps132 Tryz.results132 rfl rfl rfl rfl ?_
 intro X ρ0 hb_ hgl_
 dsimp only [qkh]
 try refine nrm ?_
 repeat' (refine qj ?_; first | refine st1 ?_ | (first | ((first | refine qc (id := 1) qf (inps := [.call (yj m.Table page)]) rfl ?_ ?_ | refine qc (id := 2) qf (inps := [.call (qlf m), .call (y7 (qh m.Table page).Mode (qh m.Table page).Frame)]) rfl ?_ ?_ | refine qak (id := 3) (inps := [.glob (gP a ty) [eP a]]) qf (by kernel_rfl) rfl rfl (by kernel_rfl) rfl rfl rfl rfl ?_ ?_ | refine qc qf (inps := []) rfl ?_ ?_); rotate_left; (try dsimp only [qlf, yj, y7]); (try refine nrm ?_); rotate_right) | refine ret3 ?_ | refine end3 ?_) | (refine ql rfl trivial ?_ ?_ <;> intro hc_ <;> (try simp only [qg, inB, reduceCtorEq, cds] at hc_) <;> (try (first | contradiction | (exfalso; omega)))) | refine qi (And.intro ?_ (wk3 ?_)))
 all_goals (first | refine qj ?_ | (try (focus ((try refine nrmO ?_); (repeat' (first | exact True.intro | apply And.intro)); all_goals (try (intro (hg_ : _ = true); (try simp only [qg, inB, reduceCtorEq, cds] at hg_); (repeat' (first | exact True.intro | apply And.intro)))); all_goals (first | exact ob1 | exact qae _ _ hs.e | exact qv9 _ hs | exact qa3 _ _ | exact hgl_.1 | exact rfl | exact one1 rfl | skip)))))
 all_goals (try (
  have hcm : ¬ qcs m page := fun h => by
   rcases hc_ with hc_ | hc_
   ·rw [show qb6 m = true from decide_eq_true h.1] at hc_; cases hc_
   ·exact h.2 hc_
  unfold mapE
  rw [if_neg hcm]; done))
 ·exact (if_neg (fun h => by
   rcases hc_ with hc_ | hc_
   ·rw [show qb6 m = true from decide_eq_true h.1] at hc_; cases hc_
   ·exact h.2 hc_)).symm
 all_goals have hcm : qcs m page := ⟨of_decide_eq_true hc_.1, hc_.2⟩
 ·unfold mapE; rw [if_pos hcm]
 ·unfold mapE; rw [if_pos hcm]
 ·exact (if_pos hcm).symm
def pgOf (addr : Int) : Int := if addr < 0 then -1 else addr.tdiv 16
def qdh (addr : Int) : CFD := ⟨133, [(SV.one (.lit (.int .i64 (addr))))], [], (TV.sv (.one (.lit (.int .i64 (pgOf addr))))), [], [], []⟩
theorem qiq (addr : Int) (h : okI addr) : Fn Tryz.prog (qdh addr) := by
 refine qm qf Tryz.func133 rfl Tryz.call133 Tryz.ntmps133 Tryz.results133 rfl rfl rfl rfl ?_
 intro X ρ0 hb_ hgl_
 dsimp only [qdh]
 try refine nrm ?_
 repeat' (refine qj ?_; first | refine st1 ?_ | (first | ((first | refine qc qf (inps := []) rfl ?_ ?_); rotate_left; (try refine nrm ?_); rotate_right) | refine ret3 ?_ | refine end3 ?_) | (refine ql rfl trivial ?_ ?_ <;> intro hc_ <;> (try simp only [qg, inB, reduceCtorEq, cds] at hc_) <;> (try (first | contradiction | (exfalso; omega)))) | refine qi (And.intro ?_ (wk3 ?_)))
 all_goals (first | refine qj ?_ | (try (focus ((try refine nrmO ?_); (repeat' (first | exact True.intro | apply And.intro)); all_goals (try (intro (hg_ : _ = true); (try simp only [qg, inB, reduceCtorEq, cds] at hg_); (repeat' (first | exact True.intro | apply And.intro)))); all_goals (first | exact ob1 | skip)))))
 ·unfold pgOf; rw [if_pos hc_]
 ·have h1 := h.1; have h2 := h.2; rw [Int.tdiv_eq_ediv_of_nonneg hc_]; exact qg4 (by omega) (by omega)
 ·unfold pgOf; rw [if_neg (by omega)]
def qjg (a : Addr) (ty : Nat) (m : GMachine) (page : Int) : CFD := ⟨132, [.agg [ro 33 1 xw m.Frames.Cells, ro 4 1 Tr.eB m.Frames.Used, ro 42 2 xe m.Table.Entries], (SV.one (.lit (.int .i64 (page))))], [],
 .tup [.agg [(CV.lit (.int .i64 ((qh m.Table page).Mode))), (CV.lit (.int .i64 ((qh m.Table page).Frame)))], .one (.lit .nilIface)], [], [], [gP a ty]⟩
def quc (a : Addr) (ty : Nat) (m : GMachine) (page : Int) : CFD := ⟨132, [.agg [ro 33 1 xw m.Frames.Cells, ro 4 1 Tr.eB m.Frames.Used, ro 42 2 xe m.Table.Entries], (SV.one (.lit (.int .i64 (page))))], [],
 .tup [.agg [(CV.lit (.int .i64 (0))), (CV.lit (.int .i64 (0)))], .one (.lit (.iface 225 (.pointer (some a))))], [], [], [gP a ty]⟩
theorem qqq (a : Addr) (ty : Nat) (m : GMachine) (page : Int) (hs : szM m) (h : qcs m page) : Fn Tryz.prog (qjg a ty m page) := by
 have := qpc a ty m page hs
 unfold qkh mapE errP at this
 rw [if_pos h, if_pos h] at this
 exact this
theorem q48 (a : Addr) (ty : Nat) (m : GMachine) (page : Int) (hs : szM m) (h : ¬ qcs m page) : Fn Tryz.prog (quc a ty m page) := by
 have := qpc a ty m page hs
 unfold qkh mapE errP at this
 rw [if_neg h, if_neg h] at this
 exact this
theorem qqr {m : GMachine} {page : Int} (h : qcs m page) : 0 <= (qh m.Table page).Frame /\ (qh m.Table page).Frame < (m.Frames.Cells.length : Int) /\ (m.Frames.Cells.getD (qh m.Table page).Frame.toNat []).length = 16 /\ m.Frames.Cells[(qh m.Table page).Frame.toNat]? = some (m.Frames.Cells.getD (qh m.Table page).Frame.toNat []) := by
 obtain ⟨f, hf, h1, h2, h3, h4⟩ := qcx h.1 h.2
 rw [hf, Int.toNat_natCast]
 exact ⟨by omega, by omega, h3, h4⟩
structure Se where
 (aP aW aV : Addr)
 (cP cW cV : List Value)
 (tP tW tV uP uW uV : Nat)
 n1 : aP ≠ aW
 n2 : aP ≠ aV
 n3 : aW ≠ aV
def gW (a : Addr) (ty : Nat) : Glb := ⟨0, [eP a], ty, (0, 0)⟩
def gV (a : Addr) (ty : Nat) : Glb := ⟨1, [eP a], ty, (0, 0)⟩
def Se.gl (s : Se) : List Glb := [gP s.aP s.uP, gW s.aW s.uW, gV s.aV s.uV, ⟨s.aP.block, s.cP, s.tP, (0, 0)⟩, ⟨s.aW.block, s.cW, s.tW, (0, 0)⟩, ⟨s.aV.block, s.cV, s.tV, (0, 0)⟩]
def c_Is (s : Se) (x y : Addr) (b : Bool) : CFD := ⟨135, [.one (.lit (.iface 225 (.pointer (some x)))), .one (.lit (.iface 225 (.pointer (some y))))], [], (TV.sv (.one (.lit (.bool (b))))), [], [], s.gl⟩
theorem qud (s : Se) (x : Addr) : Fn Tryz.prog (c_Is s x x true) :=
 qpb (vs := [.iface 225 (.pointer (some x)), .iface 225 (.pointer (some x))]) rfl Tryz.func135 rfl (fun _ _ => True.intro) (IsG.same x) Tryz.call135
theorem que (s : Se) (x y : Addr) {cx cy : List Value} {tx ty : Nat} (hne : x ≠ y) (hx : (⟨x.block, cx, tx, (0, 0)⟩ : Glb) ∈ s.gl) (hy : (⟨y.block, cy, ty, (0, 0)⟩ : Glb) ∈ s.gl) : Fn Tryz.prog (c_Is s x y false) :=
 qpb (vs := [.iface 225 (.pointer (some x)), .iface 225 (.pointer (some y))]) rfl Tryz.func135 rfl (fun w h => ⟨h _ hx, h _ hy⟩) (IsG.other x y _ _ _ _ hne) Tryz.call135
theorem Se.mP (s : Se) : (⟨s.aP.block, s.cP, s.tP, (0, 0)⟩ : Glb) ∈ s.gl := by simp [Se.gl]
theorem Se.mW (s : Se) : (⟨s.aW.block, s.cW, s.tW, (0, 0)⟩ : Glb) ∈ s.gl := by simp [Se.gl]
theorem Se.mV (s : Se) : (⟨s.aV.block, s.cV, s.tV, (0, 0)⟩ : Glb) ∈ s.gl := by simp [Se.gl]
def qdm (s : Se) (x : Addr) (k : Int) : CFD := ⟨96, [.one (.lit (.iface 225 (.pointer (some x))))], [], (TV.sv (.one (.lit (.int .i64 (k))))), [], [], s.gl⟩
theorem qxw (s : Se) : Fn Tryz.prog (qdm s s.aP 1) := by
 refine qm qf Tryz.func96 rfl Tryz.call96 Tryz.ntmps96 Tryz.results96 rfl rfl rfl rfl ?_
 intro X ρ0 hb_ hgl_
 dsimp only [qdm]
 try refine nrm ?_
 repeat' (refine qj ?_; first | refine st1 ?_ | (first | ((first | refine qc (id := 1) qf (inps := [.glob (gP s.aP s.uP) [.iface 225 (.pointer (some s.aP))], .call (c_Is s s.aP s.aP true)]) rfl ?_ ?_ | refine qc qf (inps := []) rfl ?_ ?_); rotate_left; (try dsimp only [c_Is]); (try refine nrm ?_); rotate_right) | refine ret3 ?_ | refine end3 ?_) | (refine ql rfl trivial ?_ ?_ <;> intro hc_ <;> (try simp only [qg, inB, reduceCtorEq, cds] at hc_) <;> (try (first | contradiction | (exfalso; omega)))) | refine qi (And.intro ?_ (wk3 ?_)))
 all_goals (first | refine qj ?_ | (try (focus ((try refine nrmO ?_); (repeat' (first | exact True.intro | apply And.intro)); all_goals (try (intro (hg_ : _ = true); (try simp only [qg, inB, reduceCtorEq, cds] at hg_); (repeat' (first | exact True.intro | apply And.intro)))); all_goals (first | exact ob1 | exact hgl_.1 | exact hgl_.2.1 | exact hgl_.2.2.1 | exact hgl_.2.2.2.1 | exact hgl_.2.2.2.2.1 | exact hgl_.2.2.2.2.2.1 | exact hgl_.2.2.2.2.2.2.1 | exact hgl_.2.2.2.2.2.2.2.1 | exact hgl_ | exact rfl | exact one1 rfl | exact qud _ _ | skip)))))
theorem qxx (s : Se) : Fn Tryz.prog (qdm s s.aW 2) := by
 refine qm qf Tryz.func96 rfl Tryz.call96 Tryz.ntmps96 Tryz.results96 rfl rfl rfl rfl ?_
 intro X ρ0 hb_ hgl_
 dsimp only [qdm]
 try refine nrm ?_
 repeat' (refine qj ?_; first | refine st1 ?_ | (first | ((first | refine qc (id := 1) qf (inps := [.glob (gP s.aP s.uP) [.iface 225 (.pointer (some s.aP))], .call (c_Is s s.aW s.aP false)]) rfl ?_ ?_ | refine qc (id := 3) qf (inps := [.glob (gW s.aW s.uW) [.iface 225 (.pointer (some s.aW))], .call (c_Is s s.aW s.aW true)]) rfl ?_ ?_ | refine qc qf (inps := []) rfl ?_ ?_); rotate_left; (try dsimp only [c_Is]); (try refine nrm ?_); rotate_right) | refine ret3 ?_ | refine end3 ?_) | (refine ql rfl trivial ?_ ?_ <;> intro hc_ <;> (try simp only [qg, inB, reduceCtorEq, cds] at hc_) <;> (try (first | contradiction | (exfalso; omega)))) | refine qi (And.intro ?_ (wk3 ?_)))
 all_goals (first | refine qj ?_ | (try (focus ((try refine nrmO ?_); (repeat' (first | exact True.intro | apply And.intro)); all_goals (try (intro (hg_ : _ = true); (try simp only [qg, inB, reduceCtorEq, cds] at hg_); (repeat' (first | exact True.intro | apply And.intro)))); all_goals (first | exact ob1 | exact hgl_.1 | exact hgl_.2.1 | exact hgl_.2.2.1 | exact hgl_.2.2.2.1 | exact hgl_.2.2.2.2.1 | exact hgl_.2.2.2.2.2.1 | exact hgl_.2.2.2.2.2.2.1 | exact hgl_.2.2.2.2.2.2.2.1 | exact hgl_ | exact rfl | exact one1 rfl | exact qud _ _ | exact que _ _ _ (Ne.symm s.n1) s.mW s.mP | skip)))))
theorem qxy (s : Se) : Fn Tryz.prog (qdm s s.aV 3) := by
 refine qm qf Tryz.func96 rfl Tryz.call96 Tryz.ntmps96 Tryz.results96 rfl rfl rfl rfl ?_
 intro X ρ0 hb_ hgl_
 dsimp only [qdm]
 try refine nrm ?_
 repeat' (refine qj ?_; first | refine st1 ?_ | (first | ((first | refine qc (id := 1) qf (inps := [.glob (gP s.aP s.uP) [.iface 225 (.pointer (some s.aP))], .call (c_Is s s.aV s.aP false)]) rfl ?_ ?_ | refine qc (id := 3) qf (inps := [.glob (gW s.aW s.uW) [.iface 225 (.pointer (some s.aW))], .call (c_Is s s.aV s.aW false)]) rfl ?_ ?_ | refine qc (id := 5) qf (inps := [.glob (gV s.aV s.uV) [.iface 225 (.pointer (some s.aV))], .call (c_Is s s.aV s.aV true)]) rfl ?_ ?_ | refine qc qf (inps := []) rfl ?_ ?_); rotate_left; (try dsimp only [c_Is]); (try refine nrm ?_); rotate_right) | refine ret3 ?_ | refine end3 ?_) | (refine ql rfl trivial ?_ ?_ <;> intro hc_ <;> (try simp only [qg, inB, reduceCtorEq, cds] at hc_) <;> (try (first | contradiction | (exfalso; omega)))) | refine qi (And.intro ?_ (wk3 ?_)))
 all_goals (first | refine qj ?_ | (try (focus ((try refine nrmO ?_); (repeat' (first | exact True.intro | apply And.intro)); all_goals (try (intro (hg_ : _ = true); (try simp only [qg, inB, reduceCtorEq, cds] at hg_); (repeat' (first | exact True.intro | apply And.intro)))); all_goals (first | exact ob1 | exact hgl_.1 | exact hgl_.2.1 | exact hgl_.2.2.1 | exact hgl_.2.2.2.1 | exact hgl_.2.2.2.2.1 | exact hgl_.2.2.2.2.2.1 | exact hgl_.2.2.2.2.2.2.1 | exact hgl_.2.2.2.2.2.2.2.1 | exact hgl_ | exact rfl | exact one1 rfl | exact qud _ _ | exact que _ _ _ (Ne.symm s.n2) s.mV s.mP | exact que _ _ _ (Ne.symm s.n3) s.mV s.mW | skip)))))
theorem q49 {addr : Int} (h : ¬ addr < 0) : pgOf addr = addr / 16 := by unfold pgOf; rw [if_neg h, Int.tdiv_eq_ediv_of_nonneg (by omega)]
theorem entry_eq (m : GMachine) (addr : Int) : (jr m addr).1 = qh m.Table (pgOf addr) := by
 unfold jr
 by_cases h : addr < 0
 ·rw [if_pos h]
  unfold pgOf qh
  rw [if_pos h, if_neg (by omega)]
 ·rw [if_neg h, q49 h]
theorem ql1 (m : GMachine) (addr : Int) : qd6 m addr ↔ qcs m (pgOf addr) := by unfold qd6 qcs; rw [entry_eq]
theorem qog {m : GMachine} {addr : Int} (h : qcs m (pgOf addr)) : ¬ addr < 0 := fun hn => by
 have := h.2
 unfold pgOf qh at this
 rw [if_pos hn, if_neg (by omega)] at this
 exact this rfl
def qdb (s : Se) (m : GMachine) (addr v md fr : Int) (e : Value) : CFD := ⟨95, [.agg [ro 33 1 xw m.Frames.Cells, ro 4 1 Tr.eB m.Frames.Used, ro 42 2 xe m.Table.Entries], (SV.one (.lit (.int .i64 (addr)))), (SV.one (.lit (.int .i64 (v))))], [],
 .tup [.agg [(CV.lit (.int .i64 (md))), (CV.lit (.int .i64 (fr)))], .one (.lit e)], [], [], s.gl⟩
theorem q1i (s : Se) (m : GMachine) (addr v : Int) (hs : szM m) (ha : okI addr) (hcm : ¬ qcs m (pgOf addr)) : Fn Tryz.prog (qdb s m addr v 0 0 (.iface 225 (.pointer (some s.aP)))) := by
 refine qm qf Tryz.func95 rfl Tryz.call95 Tryz.ntmps95 Tryz.results95 rfl rfl rfl rfl ?_
 intro X ρ0 hb_ hgl_
 dsimp only [qdb]
 try refine nrm ?_
 repeat' (refine qj ?_; first | refine st1 ?_ | (first | ((first | refine qak (id := 1) (inps := [.call (qdh addr), .call (quc s.aP s.uP m (pgOf addr))]) qf (by kernel_rfl) rfl rfl (by kernel_rfl) rfl rfl rfl rfl ?_ ?_ | refine qc qf (inps := []) rfl ?_ ?_); rotate_left; (try dsimp only [quc, qdh]); (try refine nrm ?_); rotate_right) | refine ret3 ?_ | refine end3 ?_) | (refine ql rfl trivial ?_ ?_ <;> intro hc_ <;> (try simp only [qg, inB, reduceCtorEq, cds] at hc_) <;> (try (first | contradiction | (exfalso; omega)))) | refine qi (And.intro ?_ (wk3 ?_)))
 all_goals (first | refine qj ?_ | (try (focus ((try refine nrmO ?_); (repeat' (first | exact True.intro | apply And.intro)); all_goals (try (intro (hg_ : _ = true); (try simp only [qg, inB, reduceCtorEq, cds] at hg_); (repeat' (first | exact True.intro | apply And.intro)))); all_goals (first | exact ob1 | exact qiq _ ha | exact q48 _ _ _ _ hs hcm | exact hgl_.1 | exact hgl_.2.1 | exact hgl_.2.2.1 | exact hgl_.2.2.2.1 | exact hgl_.2.2.2.2.1 | exact hgl_.2.2.2.2.2.1 | exact hgl_.2.2.2.2.2.2.1 | exact hgl_.2.2.2.2.2.2.2.1 | exact hgl_ | exact rfl | exact one1 rfl | exact trivial | skip)))))
theorem q1j (s : Se) (m : GMachine) (addr v : Int) (hs : szM m) (ha : okI addr) (hcm : qcs m (pgOf addr)) (h1 : (qh m.Table (pgOf addr)).Mode = 1) : Fn Tryz.prog (qdb s m addr v 0 0 (.iface 225 (.pointer (some s.aW)))) := by
 refine qm qf Tryz.func95 rfl Tryz.call95 Tryz.ntmps95 Tryz.results95 rfl rfl rfl rfl ?_
 intro X ρ0 hb_ hgl_
 dsimp only [qdb]
 try refine nrm ?_
 repeat' (refine qj ?_; first | refine st1 ?_ | (first | ((first | refine qak (id := 1) (inps := [.call (qdh addr), .call (qjg s.aP s.uP m (pgOf addr))]) qf (by kernel_rfl) rfl rfl (by kernel_rfl) rfl rfl rfl rfl ?_ ?_ | refine qak (id := 5) (inps := [.glob (gW s.aW s.uW) [.iface 225 (.pointer (some s.aW))]]) qf (by kernel_rfl) rfl rfl (by kernel_rfl) rfl rfl rfl rfl ?_ ?_ | refine qc qf (inps := []) rfl ?_ ?_); rotate_left; (try dsimp only [qjg, qdh]); (try refine nrm ?_); rotate_right) | refine ret3 ?_ | refine end3 ?_) | (refine ql rfl trivial ?_ ?_ <;> intro hc_ <;> (try simp only [qg, inB, reduceCtorEq, cds] at hc_) <;> (try (first | contradiction | (exfalso; omega)))) | refine qi (And.intro ?_ (wk3 ?_)))
 all_goals (first | refine qj ?_ | (try (focus ((try refine nrmO ?_); (repeat' (first | exact True.intro | apply And.intro)); all_goals (try (intro (hg_ : _ = true); (try simp only [qg, inB, reduceCtorEq, cds] at hg_); (repeat' (first | exact True.intro | apply And.intro)))); all_goals (first | exact ob1 | exact qiq _ ha | exact qqq _ _ _ _ hs hcm | exact hgl_.1 | exact hgl_.2.1 | exact hgl_.2.2.1 | exact hgl_.2.2.2.1 | exact hgl_.2.2.2.2.1 | exact hgl_.2.2.2.2.2.1 | exact hgl_.2.2.2.2.2.2.1 | exact hgl_.2.2.2.2.2.2.2.1 | exact hgl_ | exact rfl | exact one1 rfl | exact trivial | skip)))))
theorem q1k (s : Se) (m : GMachine) (addr v : Int) (hs : szM m) (ha : okI addr) (hcm : qcs m (pgOf addr)) (h1 : (qh m.Table (pgOf addr)).Mode ≠ 1) (hv : ¬ (0 <= v /\ v <= 999)) : Fn Tryz.prog (qdb s m addr v 0 0 (.iface 225 (.pointer (some s.aV)))) := by
 refine qm qf Tryz.func95 rfl Tryz.call95 Tryz.ntmps95 Tryz.results95 rfl rfl rfl rfl ?_
 intro X ρ0 hb_ hgl_
 dsimp only [qdb]
 try refine nrm ?_
 repeat' (refine qj ?_; first | refine st1 ?_ | (first | ((first | refine qak (id := 1) (inps := [.call (qdh addr), .call (qjg s.aP s.uP m (pgOf addr))]) qf (by kernel_rfl) rfl rfl (by kernel_rfl) rfl rfl rfl rfl ?_ ?_ | refine qc (id := 6) qf (inps := [.call (ql0 v)]) rfl ?_ ?_ | refine qak (id := 7) (inps := [.glob (gV s.aV s.uV) [.iface 225 (.pointer (some s.aV))]]) qf (by kernel_rfl) rfl rfl (by kernel_rfl) rfl rfl rfl rfl ?_ ?_ | refine qc qf (inps := []) rfl ?_ ?_); rotate_left; (try dsimp only [qjg, qdh, ql0]); (try refine nrm ?_); rotate_right) | refine ret3 ?_ | refine end3 ?_) | (refine ql rfl trivial ?_ ?_ <;> intro hc_ <;> (try simp only [qg, inB, reduceCtorEq, cds] at hc_) <;> (try (first | contradiction | (exfalso; omega)))) | refine qi (And.intro ?_ (wk3 ?_)))
 all_goals (first | refine qj ?_ | (try (focus ((try refine nrmO ?_); (repeat' (first | exact True.intro | apply And.intro)); all_goals (try (intro (hg_ : _ = true); (try simp only [qg, inB, reduceCtorEq, cds] at hg_); (repeat' (first | exact True.intro | apply And.intro)))); all_goals (first | exact ob1 | exact qiq _ ha | exact qqq _ _ _ _ hs hcm | exact hgl_.1 | exact hgl_.2.1 | exact hgl_.2.2.1 | exact hgl_.2.2.2.1 | exact hgl_.2.2.2.2.1 | exact hgl_.2.2.2.2.2.1 | exact hgl_.2.2.2.2.2.2.1 | exact hgl_.2.2.2.2.2.2.2.1 | exact hgl_ | exact rfl | exact one1 rfl | exact trivial | exact qt9 _ | skip)))))
theorem q1l (s : Se) (m : GMachine) (addr v : Int) (hs : szM m) (ha : okI addr) (hcm : qcs m (pgOf addr)) (h1 : (qh m.Table (pgOf addr)).Mode ≠ 1) (hv : 0 <= v /\ v <= 999) : Fn Tryz.prog (qdb s m addr v (qh m.Table (pgOf addr)).Mode (qh m.Table (pgOf addr)).Frame .nilIface) := by
 refine qm qf Tryz.func95 rfl Tryz.call95 Tryz.ntmps95 Tryz.results95 rfl rfl rfl rfl ?_
 intro X ρ0 hb_ hgl_
 dsimp only [qdb]
 try refine nrm ?_
 repeat' (refine qj ?_; first | refine st1 ?_ | (first | ((first | refine qak (id := 1) (inps := [.call (qdh addr), .call (qjg s.aP s.uP m (pgOf addr))]) qf (by kernel_rfl) rfl rfl (by kernel_rfl) rfl rfl rfl rfl ?_ ?_ | refine qc (id := 6) qf (inps := [.call (ql0 v)]) rfl ?_ ?_ | refine qc qf (inps := []) rfl ?_ ?_); rotate_left; (try dsimp only [qjg, qdh, ql0]); (try refine nrm ?_); rotate_right) | refine ret3 ?_ | refine end3 ?_) | (refine ql rfl trivial ?_ ?_ <;> intro hc_ <;> (try simp only [qg, inB, reduceCtorEq, cds] at hc_) <;> (try (first | contradiction | (exfalso; omega)))) | refine qi (And.intro ?_ (wk3 ?_)))
 all_goals (first | refine qj ?_ | (try (focus ((try refine nrmO ?_); (repeat' (first | exact True.intro | apply And.intro)); all_goals (try (intro (hg_ : _ = true); (try simp only [qg, inB, reduceCtorEq, cds] at hg_); (repeat' (first | exact True.intro | apply And.intro)))); all_goals (first | exact ob1 | exact qiq _ ha | exact qqq _ _ _ _ hs hcm | exact hgl_.1 | exact hgl_.2.1 | exact hgl_.2.2.1 | exact hgl_.2.2.2.1 | exact hgl_.2.2.2.2.1 | exact hgl_.2.2.2.2.2.1 | exact hgl_.2.2.2.2.2.2.1 | exact hgl_.2.2.2.2.2.2.2.1 | exact hgl_ | exact rfl | exact one1 rfl | exact trivial | exact qt9 _ | skip)))))
def qgq (s : Se) (m : GMachine) (addr v : Int) : CFD := ⟨53, [.agg [ro 33 1 xw m.Frames.Cells, ro 4 1 Tr.eB m.Frames.Used, ro 42 2 xe m.Table.Entries], (SV.one (.lit (.int .i64 (addr)))), (SV.one (.lit (.int .i64 (v))))], [],
 .tup [.agg [.hd 0, .hd 1, .hd 2], (SV.one (.lit (.int .i64 ((qaa m addr v).2))))],
 [(0, some (.row 33 1 ((qaa m addr v).1.Frames.Cells.map xw))), (1, some (.row 4 1 ((qaa m addr v).1.Frames.Used.map Tr.eB))), (2, some (.row 42 2 ((qaa m addr v).1.Table.Entries.map xe)))], [0, 1, 2], s.gl⟩
theorem qxz (s : Se) (m : GMachine) (addr v : Int) (hs : szM m) (ha : okI addr) : Fn Tryz.prog (qgq s m addr v) := by
 by_cases hcm : qcs m (pgOf addr)
 ·have hcl := (ql1 m addr).2 hcm
  by_cases h1 : (qh m.Table (pgOf addr)).Mode = 1
  ·have hV : qaa m addr v = (m, 2) := by unfold qaa; rw [if_pos hcl, if_pos (by rw [entry_eq]; exact h1)]
   refine qm qf Tryz.func53 rfl Tryz.call53 Tryz.ntmps53 Tryz.results53 rfl rfl rfl rfl ?_
   intro X ρ0 hb_ hgl_
   dsimp only [qgq]
   try refine nrm ?_
   repeat' (refine qj ?_; first | refine st1 ?_ | (first | ((first | refine qc (id := 1) qf (inps := [.call (qcg m)]) rfl ?_ ?_ | refine qc (id := 2) qf (inps := [.call (qdb s m addr v 0 0 (.iface 225 (.pointer (some s.aW))))]) rfl ?_ ?_ | refine qak (id := 4) (inps := [.call (qdm s s.aW 2)]) qf (by kernel_rfl) rfl rfl (by kernel_rfl) rfl rfl rfl rfl ?_ ?_ | refine qc qf (inps := []) rfl ?_ ?_); rotate_left; (try dsimp only [qcg, qdm, qdb]); (try refine nrm ?_); rotate_right) | refine ret3 ?_ | refine end3 ?_) | (refine ql rfl trivial ?_ ?_ <;> intro hc_ <;> (try simp only [qg, inB, reduceCtorEq, cds] at hc_) <;> (try (first | contradiction | (exfalso; omega)))) | refine qi (And.intro ?_ (wk3 ?_)))
   all_goals (first | refine qj ?_ | (try (focus ((try refine nrmO ?_); (repeat' (first | exact True.intro | apply And.intro)); all_goals (try (intro (hg_ : _ = true); (try simp only [qg, inB, reduceCtorEq, cds] at hg_); (repeat' (first | exact True.intro | apply And.intro)))); all_goals (first | exact ob1 | exact qgp _ hs | exact q1j _ _ _ _ hs ha hcm h1 | exact qxx _ | exact hgl_.1 | exact hgl_.2.1 | exact hgl_.2.2.1 | exact hgl_.2.2.2.1 | exact hgl_.2.2.2.2.1 | exact hgl_.2.2.2.2.2.1 | exact hgl_.2.2.2.2.2.2.1 | exact hgl_.2.2.2.2.2.2.2.1 | exact hgl_ | exact rfl | exact one1 rfl | exact trivial | skip)))))
   all_goals rw [hV]
  ·by_cases hv : 0 <= v /\ v <= 999
   ·have hV : qaa m addr v = (qag m (jr m addr).1.Frame (jr m addr).2 v, 0) := by unfold qaa; rw [if_pos hcl, if_neg (by rw [entry_eq]; exact h1), if_pos hv]
    obtain ⟨f0, f1, f2, f3⟩ := qqr hcm
    have hn := qog hcm
    have ht : addr.tmod 16 = addr % 16 := Int.tmod_eq_emod_of_nonneg (by omega)
    refine qm qf Tryz.func53 rfl Tryz.call53 Tryz.ntmps53 Tryz.results53 rfl rfl rfl rfl ?_
    intro X ρ0 hb_ hgl_
    dsimp only [qgq]
    try refine nrm ?_
    repeat' (refine qj ?_; first | refine st1 ?_ | (first | ((first | refine qc (id := 1) qf (inps := [.call (qcg m)]) rfl ?_ ?_ | refine qc (id := 2) qf (inps := [.call (qdb s m addr v (qh m.Table (pgOf addr)).Mode (qh m.Table (pgOf addr)).Frame .nilIface)]) rfl ?_ ?_ | refine qc qf (inps := []) rfl ?_ ?_); rotate_left; (try dsimp only [qcg, qdb]); (try refine nrm ?_); rotate_right) | refine ret3 ?_ | refine end3 ?_) | (refine ql rfl trivial ?_ ?_ <;> intro hc_ <;> (try simp only [qg, inB, reduceCtorEq, cds] at hc_) <;> (try (first | contradiction | (exfalso; omega)))) | refine qi (And.intro ?_ (wk3 ?_)))
    all_goals (first | refine qj ?_ | (try (focus ((try refine nrmO ?_); (repeat' (first | exact True.intro | apply And.intro)); all_goals (try (intro (hg_ : _ = true); (try simp only [qg, inB, reduceCtorEq, cds] at hg_); (repeat' (first | exact True.intro | apply And.intro)))); all_goals (first | exact ob1 | exact qgp _ hs | exact q1l _ _ _ _ hs ha hcm h1 hv | exact hgl_.1 | exact hgl_.2.1 | exact hgl_.2.2.1 | exact hgl_.2.2.2.1 | exact hgl_.2.2.2.2.1 | exact hgl_.2.2.2.2.2.1 | exact hgl_.2.2.2.2.2.2.1 | exact hgl_.2.2.2.2.2.2.2.1 | exact hgl_ | exact rfl | exact one1 rfl | exact trivial | skip)))))
    have h2 : (jr m addr).1.Frame = (qh m.Table (pgOf addr)).Frame := by rw [entry_eq]
    have h3 : (jr m addr).2 = addr % 16 := by unfold jr; rw [if_neg hn]
    have hset : ∀ (o w : Int), ((m.Frames.Cells.getD (qh m.Table (pgOf addr)).Frame.toNat []).map eI).set (addr.tmod 16).toNat (dPut (eI o) 0 (D.lit (.int .i64 w) .nil)) = ((m.Frames.Cells.getD (qh m.Table (pgOf addr)).Frame.toNat []).set (addr.tmod 16).toNat w).map eI := fun o w => List.map_set.symm
    refine qj3 13000 ((qh m.Table (pgOf addr)).Frame.toNat) 0 90001 90002 (d := xw (m.Frames.Cells.getD (qh m.Table (pgOf addr)).Frame.toNat [])) ((m.Frames.Cells.getD (qh m.Table (pgOf addr)).Frame.toNat []).map eI) rfl ?_ rfl ?_ rfl rfl rfl ?_
    ·first | exact qdo (by omega) | assumption | exact qe6 (by (try simp only [List.length_map, List.length_set]); omega) | (rw [List.getElem?_set_ne (by omega)]; exact qdo (by omega))
    ·exact ⟨rfl, rfl, by intro e he; simp only [List.mem_map] at he; obtain ⟨_, _, rfl⟩ := he; rfl⟩
    intro A_90001 n_90001 c_90001
    try refine nrm ?_
    refine qc (id := 5) qf (inps := [.nest (.lit (Value.slice A_90001 n_90001 c_90001) .nil) [(0, 90002)], .elem (eI ((m.Frames.Cells.getD (qh m.Table (pgOf addr)).Frame.toNat []).getD (addr.tmod 16).toNat 0))]) rfl ?_ ?_
    rotate_left
    (try refine nrm ?_)
    refine qh0 13000 ((qh m.Table (pgOf addr)).Frame.toNat) 0 90001 90002 rfl rfl rfl (qe6 ?_) rfl rfl rfl ?_
    ·(simp only [List.length_map, List.length_set]; omega)
    try refine nrm ?_
    repeat' (refine qj ?_; first | refine st1 ?_ | (first | ((first | refine qc qf (inps := []) rfl ?_ ?_); rotate_left; (try refine nrm ?_); rotate_right) | refine ret3 ?_ | refine end3 ?_) | (refine ql rfl trivial ?_ ?_ <;> intro hc_ <;> (try simp only [qg, inB, reduceCtorEq, cds] at hc_) <;> (try (first | contradiction | (exfalso; omega)))) | refine qi (And.intro ?_ (wk3 ?_)))
    all_goals (first | refine qj ?_ | (try (focus ((try refine nrmO ?_); (repeat' (first | exact True.intro | apply And.intro)); all_goals (try (intro (hg_ : _ = true); (try simp only [qg, inB, reduceCtorEq, cds] at hg_); (repeat' (first | exact True.intro | apply And.intro)))); all_goals (first | exact ob1 | skip)))))
    all_goals (try (focus ((try refine nrmO ?_); (repeat' (first | exact True.intro | apply And.intro)); all_goals (try (intro (hg_ : _ = true); (try simp only [qg, inB, reduceCtorEq, cds] at hg_); (repeat' (first | exact True.intro | apply And.intro)))); all_goals (first | exact ob1 | skip))))
    ·rw [hV]
    ·rw [hV, List.set_set, hset, ht]
     unfold qag
     rw [h2, h3]
     exact List.map_set.symm
    ·rw [hV]; rfl
    ·rw [hV]; rfl
    all_goals (rw [ht]; simp only [List.length_map]; omega)
   ·have hV : qaa m addr v = (m, 3) := by unfold qaa; rw [if_pos hcl, if_neg (by rw [entry_eq]; exact h1), if_neg hv]
    refine qm qf Tryz.func53 rfl Tryz.call53 Tryz.ntmps53 Tryz.results53 rfl rfl rfl rfl ?_
    intro X ρ0 hb_ hgl_
    dsimp only [qgq]
    try refine nrm ?_
    repeat' (refine qj ?_; first | refine st1 ?_ | (first | ((first | refine qc (id := 1) qf (inps := [.call (qcg m)]) rfl ?_ ?_ | refine qc (id := 2) qf (inps := [.call (qdb s m addr v 0 0 (.iface 225 (.pointer (some s.aV))))]) rfl ?_ ?_ | refine qak (id := 4) (inps := [.call (qdm s s.aV 3)]) qf (by kernel_rfl) rfl rfl (by kernel_rfl) rfl rfl rfl rfl ?_ ?_ | refine qc qf (inps := []) rfl ?_ ?_); rotate_left; (try dsimp only [qcg, qdm, qdb]); (try refine nrm ?_); rotate_right) | refine ret3 ?_ | refine end3 ?_) | (refine ql rfl trivial ?_ ?_ <;> intro hc_ <;> (try simp only [qg, inB, reduceCtorEq, cds] at hc_) <;> (try (first | contradiction | (exfalso; omega)))) | refine qi (And.intro ?_ (wk3 ?_)))
    all_goals (first | refine qj ?_ | (try (focus ((try refine nrmO ?_); (repeat' (first | exact True.intro | apply And.intro)); all_goals (try (intro (hg_ : _ = true); (try simp only [qg, inB, reduceCtorEq, cds] at hg_); (repeat' (first | exact True.intro | apply And.intro)))); all_goals (first | exact ob1 | exact qgp _ hs | exact q1k _ _ _ _ hs ha hcm h1 hv | exact qxy _ | exact hgl_.1 | exact hgl_.2.1 | exact hgl_.2.2.1 | exact hgl_.2.2.2.1 | exact hgl_.2.2.2.2.1 | exact hgl_.2.2.2.2.2.1 | exact hgl_.2.2.2.2.2.2.1 | exact hgl_.2.2.2.2.2.2.2.1 | exact hgl_ | exact rfl | exact one1 rfl | exact trivial | skip)))))
    all_goals rw [hV]
 ·have hV : qaa m addr v = (m, 1) := by unfold qaa; rw [if_neg (fun h => hcm ((ql1 m addr).1 h))]
  refine qm qf Tryz.func53 rfl Tryz.call53 Tryz.ntmps53 Tryz.results53 rfl rfl rfl rfl ?_
  intro X ρ0 hb_ hgl_
  dsimp only [qgq]
  try refine nrm ?_
  repeat' (refine qj ?_; first | refine st1 ?_ | (first | ((first | refine qc (id := 1) qf (inps := [.call (qcg m)]) rfl ?_ ?_ | refine qc (id := 2) qf (inps := [.call (qdb s m addr v 0 0 (.iface 225 (.pointer (some s.aP))))]) rfl ?_ ?_ | refine qak (id := 4) (inps := [.call (qdm s s.aP 1)]) qf (by kernel_rfl) rfl rfl (by kernel_rfl) rfl rfl rfl rfl ?_ ?_ | refine qc qf (inps := []) rfl ?_ ?_); rotate_left; (try dsimp only [qcg, qdm, qdb]); (try refine nrm ?_); rotate_right) | refine ret3 ?_ | refine end3 ?_) | (refine ql rfl trivial ?_ ?_ <;> intro hc_ <;> (try simp only [qg, inB, reduceCtorEq, cds] at hc_) <;> (try (first | contradiction | (exfalso; omega)))) | refine qi (And.intro ?_ (wk3 ?_)))
  all_goals (first | refine qj ?_ | (try (focus ((try refine nrmO ?_); (repeat' (first | exact True.intro | apply And.intro)); all_goals (try (intro (hg_ : _ = true); (try simp only [qg, inB, reduceCtorEq, cds] at hg_); (repeat' (first | exact True.intro | apply And.intro)))); all_goals (first | exact ob1 | exact qgp _ hs | exact q1i _ _ _ _ hs ha hcm | exact qxw _ | exact hgl_.1 | exact hgl_.2.1 | exact hgl_.2.2.1 | exact hgl_.2.2.2.1 | exact hgl_.2.2.2.2.1 | exact hgl_.2.2.2.2.2.1 | exact hgl_.2.2.2.2.2.2.1 | exact hgl_.2.2.2.2.2.2.2.1 | exact hgl_ | exact rfl | exact one1 rfl | exact trivial | skip)))))
  all_goals rw [hV]
def qdx (f : GFrames) (i : Int) : CFD := ⟨173, [.agg [ro 33 1 xw f.Cells, ro 4 1 Tr.eB f.Used], (SV.one (.lit (.int .i64 (i))))], [], (TV.sv (.one (.lit (.bool (decide (qfp f i)))))), [], [], []⟩
theorem qki (f : GFrames) (i : Int) (hl : f.Cells.length <= 1048576) (hu : f.Used.length <= 1048576) (hc : ∀ r ∈ f.Cells, r.length <= 1048576) : Fn Tryz.prog (qdx f i) := by
 refine qm qf Tryz.func173 rfl Tryz.call173 Tryz.ntmps173 Tryz.results173 rfl rfl rfl rfl ?_
 intro X ρ0 hb_ hgl_
 dsimp only [qdx]
 try refine nrm ?_
 repeat' (refine qj ?_; first | refine st1 ?_ | (first | ((first | refine qc (id := 1) qf (inps := [.call (qdw f), .elem (Tr.eB (f.Used.getD i.toNat false))]) rfl ?_ ?_ | refine qc qf (inps := []) rfl ?_ ?_); rotate_left; (try dsimp only [qdw]); (try refine nrm ?_); rotate_right) | refine ret3 ?_ | refine end3 ?_) | (refine ql rfl trivial ?_ ?_ <;> intro hc_ <;> (try simp only [qg, inB, reduceCtorEq, cds] at hc_) <;> (try (first | contradiction | (exfalso; omega)))) | refine qi (And.intro ?_ (wk3 ?_)))
 all_goals (first | refine qj ?_ | (try (focus ((try refine nrmO ?_); (repeat' (first | exact True.intro | apply And.intro)); all_goals (try (intro (hg_ : _ = true); (try simp only [qg, inB, reduceCtorEq, cds] at hg_); (repeat' (first | exact True.intro | apply And.intro)))); all_goals (first | exact ob1 | exact qke _ hl hu hc | skip)))))
 refine congrArg Value.bool ?_
 by_cases h1 : okF f
 ·by_cases h2 : 0 <= i /\ i < f.Used.length
  ·have e : f.Used[i.toNat]? = some (f.Used.getD i.toNat false) := getD_at (by omega)
   simp only [qdu, qfp, h1, h2, ge_iff_le, e, Option.some.injEq, decide_true, cond_true, true_and, and_self, Bool.decide_eq_true]
  ·have e : (bif bif qdu f then decide (i ≥ 0) else false then decide (i < ↑f.Used.length) else false) = false := by
    cases h3 : (bif bif qdu f then decide (i ≥ 0) else false then decide (i < ↑f.Used.length) else false)
    ·rfl
    ·exfalso
     simp only [Bool.cond_false_right, Bool.and_eq_true, decide_eq_true_eq] at h3
     omega
   rw [e]
   simp only [qfp, h2, false_and, and_false, decide_false, cond_false]
 ·simp only [qdu, qfp, h1, false_and, decide_false, cond_false]
def qkj (f : GFrames) (i : Int) : CFD := ⟨172, [.agg [ro 33 1 xw f.Cells, ro 4 1 Tr.eB f.Used], (SV.one (.lit (.int .i64 (i))))], [], .tup [.agg [.hd 0, .hd 1], (SV.one (.lit (.bool ((qbe f i).2))))], [(0, some (.row 33 1 (((qbe f i).1).Cells.map xw))), (1, some (.row 4 1 (((qbe f i).1).Used.map Tr.eB)))], [0, 1], []⟩
theorem q1m (f : GFrames) (i : Int) (hl : f.Cells.length <= 1048576) (hu : f.Used.length <= 1048576) (hc : ∀ r ∈ f.Cells, r.length <= 1048576) : Fn Tryz.prog (qkj f i) := by
 by_cases hU : qfp f i
 ·have hV : qbe f i = (⟨f.Cells.set i.toNat (List.replicate 16 0), f.Used.set i.toNat false⟩, true) := by unfold qbe; rw [if_pos hU]
  obtain ⟨hok, ⟨h5, h6⟩, h7⟩ := id hU
  have hr : i.toNat < f.Cells.length := by have := hok.2.1; omega
  have hl16 : (f.Cells.getD i.toNat []).length = 16 := by
   have e1 : f.Cells[i.toNat]? = some (f.Cells.getD i.toNat []) := getD_at hr
   exact (hok.2.2 _ (List.mem_of_getElem? (qf7 e1 h7))).1
  refine qm qf Tryz.func172 rfl Tryz.call172 Tryz.ntmps172 Tryz.results172 rfl rfl rfl rfl ?_
  intro X ρ0 hb_ hgl_
  dsimp only [qkj]
  try refine nrm ?_
  rw [hV]
  repeat' (refine qj ?_; first | refine st1 ?_ | (first | ((first | refine qc (id := 1) qf (inps := [.call (qe2 f)]) rfl ?_ ?_ | refine qc (id := 2) qf (inps := [.call (qdx f i)]) rfl ?_ ?_ | refine qc (id := 4) qf (inps := [.elem (Tr.eB (f.Used.getD i.toNat false))]) rfl ?_ ?_ | refine qc qf (inps := []) rfl ?_ ?_); rotate_left; (try dsimp only [qe2, qdx]); (try refine nrm ?_); rotate_right) | refine ret3 ?_ | refine end3 ?_) | (refine ql rfl trivial ?_ ?_ <;> intro hc_ <;> (try simp only [qg, inB, reduceCtorEq, cds] at hc_) <;> (try (first | contradiction | (exfalso; omega)))) | refine qi (And.intro ?_ (wk3 ?_)))
  all_goals (first | refine qj ?_ | (try (focus ((try refine nrmO ?_); (repeat' (first | exact True.intro | apply And.intro)); all_goals (try (intro (hg_ : _ = true); (try simp only [qg, inB, reduceCtorEq, cds] at hg_); (repeat' (first | exact True.intro | apply And.intro)))); all_goals (first | exact ob1 | exact qld _ hl hu hc | exact qki _ _ hl hu hc | skip)))))
  rotate_left
  refine qj3 9000 i.toNat 0 90001 90002 (d := xw (f.Cells.getD i.toNat [])) ((f.Cells.getD i.toNat []).map eI) rfl ?_ rfl ?_ rfl rfl rfl ?_
  ·first | exact qdo (by omega) | assumption | exact qe6 (by (try simp only [List.length_map, List.length_set]); omega) | (rw [List.getElem?_set_ne (by omega)]; exact qdo (by omega))
  ·exact ⟨rfl, rfl, by intro e he; simp only [List.mem_map] at he; obtain ⟨_, _, rfl⟩ := he; rfl⟩
  intro A_90001 n_90001 c_90001
  try refine nrm ?_
  refine qc (id := 5) qf (inps := [.nest (.lit (Value.slice A_90001 n_90001 c_90001) .nil) [(0, 90002)]]) rfl ?_ ?_
  rotate_left
  (try refine nrm ?_)
  refine qh0 9000 i.toNat 0 90001 90002 rfl rfl rfl (qe6 ?_) rfl rfl rfl ?_
  ·(simp only [List.length_map, List.length_set]; omega)
  try refine nrm ?_
  repeat' (refine qj ?_; first | refine st1 ?_ | (first | ((first | refine qc qf (inps := []) rfl ?_ ?_); rotate_left; (try refine nrm ?_); rotate_right) | refine ret3 ?_ | refine end3 ?_) | (refine ql rfl trivial ?_ ?_ <;> intro hc_ <;> (try simp only [qg, inB, reduceCtorEq, cds] at hc_) <;> (try (first | contradiction | (exfalso; omega)))) | refine qi (And.intro ?_ (wk3 ?_)))
  all_goals (first | refine qj ?_ | (try (focus ((try refine nrmO ?_); (repeat' (first | exact True.intro | apply And.intro)); all_goals (try (intro (hg_ : _ = true); (try simp only [qg, inB, reduceCtorEq, cds] at hg_); (repeat' (first | exact True.intro | apply And.intro)))); all_goals (first | exact ob1 | skip)))))
  all_goals (try (focus ((try refine nrmO ?_); (repeat' (first | exact True.intro | apply And.intro)); all_goals (try (intro (hg_ : _ = true); (try simp only [qg, inB, reduceCtorEq, cds] at hg_); (repeat' (first | exact True.intro | apply And.intro)))); all_goals (first | exact ob1 | skip))))
  ·rw [List.set_set, List.length_map, hl16]; exact (congrArg (List.set (f.Cells.map xw) i.toNat) (show _ = xw (List.replicate 16 0) from rfl)).trans List.map_set.symm
  ·exact List.map_set.symm
  ·intro d hd; obtain ⟨_, _, rfl⟩ := List.mem_map.1 hd; exact ⟨rfl, trivial⟩
 ·have hV : qbe f i = (f, false) := by unfold qbe; rw [if_neg hU]
  refine qm qf Tryz.func172 rfl Tryz.call172 Tryz.ntmps172 Tryz.results172 rfl rfl rfl rfl ?_
  intro X ρ0 hb_ hgl_
  dsimp only [qkj]
  try refine nrm ?_
  rw [hV]
  repeat' (refine qj ?_; first | refine st1 ?_ | (first | ((first | refine qc (id := 1) qf (inps := [.call (qe2 f)]) rfl ?_ ?_ | refine qc (id := 2) qf (inps := [.call (qdx f i)]) rfl ?_ ?_ | refine qc qf (inps := []) rfl ?_ ?_); rotate_left; (try dsimp only [qe2, qdx]); (try refine nrm ?_); rotate_right) | refine ret3 ?_ | refine end3 ?_) | (refine ql rfl trivial ?_ ?_ <;> intro hc_ <;> (try simp only [qg, inB, reduceCtorEq, cds] at hc_) <;> (try (first | contradiction | (exfalso; omega)))) | refine qi (And.intro ?_ (wk3 ?_)))
  all_goals (first | refine qj ?_ | (try (focus ((try refine nrmO ?_); (repeat' (first | exact True.intro | apply And.intro)); all_goals (try (intro (hg_ : _ = true); (try simp only [qg, inB, reduceCtorEq, cds] at hg_); (repeat' (first | exact True.intro | apply And.intro)))); all_goals (first | exact ob1 | exact qld _ hl hu hc | exact qki _ _ hl hu hc | skip)))))
def qei (t : GTable) (page : Int) (e : GEntry) : CFD := ⟨170, [.agg [ro 42 2 xe t.Entries], (SV.one (.lit (.int .i64 (page)))), .agg [(CV.lit (.int .i64 (e.Mode))), (CV.lit (.int .i64 (e.Frame)))]], [],
 .tup [.agg [.hd 0], (SV.one (.lit (.bool ((qaz t page e).2))))], [(0, some (.row 42 2 (((qaz t page e).1).Entries.map xe)))], [0], []⟩
theorem ql2 (t : GTable) (page : Int) (e : GEntry) (hl : t.Entries.length <= 1048576) : Fn Tryz.prog (qei t page e) := by
 refine qm qf Tryz.func170 rfl Tryz.call170 Tryz.ntmps170 Tryz.results170 rfl rfl rfl rfl ?_
 intro X ρ0 hb_ hgl_
 dsimp only [qei]
 try refine nrm ?_
 repeat' (refine qj ?_; first | refine st1 ?_ | (first | ((first | refine qc (id := 1) qf (inps := [.call (qgo t.Entries)]) rfl ?_ ?_ | refine qc (id := 2) qf (inps := [.call (qcz t page), .call (qfe e.Mode e.Frame)]) rfl ?_ ?_ | refine qc (id := 4) qf (inps := [.elem (xe (t.Entries.getD page.toNat ⟨0, 0⟩))]) rfl ?_ ?_ | refine qc qf (inps := []) rfl ?_ ?_); rotate_left; (try dsimp only [qgo, qfe, qcz]); (try refine nrm ?_); rotate_right) | refine ret3 ?_ | refine end3 ?_) | (refine ql rfl trivial ?_ ?_ <;> intro hc_ <;> (try simp only [qg, inB, reduceCtorEq, cds] at hc_) <;> (try (first | contradiction | (exfalso; omega)))) | refine qi (And.intro ?_ (wk3 ?_)))
 all_goals (first | refine qj ?_ | (try (focus ((try refine nrmO ?_); (repeat' (first | exact True.intro | apply And.intro)); all_goals (try (intro (hg_ : _ = true); (try simp only [qg, inB, reduceCtorEq, cds] at hg_); (repeat' (first | exact True.intro | apply And.intro)))); all_goals (first | exact ob1 | exact qo9 _ hl | exact qi0 _ _ hl | exact qn6 _ _ | skip)))))
 all_goals unfold okA at hc_
 all_goals unfold qaz
 ·rw [if_neg (by unfold qgi; omega)]
 ·rw [if_neg (by unfold qgi; omega)]
 ·rw [if_pos (by unfold qgi; omega)]
 ·rw [if_pos (by unfold qgi; omega)]; exact List.map_set.symm
def qej (t : GTable) (frame : Int) : CFD := ⟨171, [.agg [ro 42 2 xe t.Entries], (SV.one (.lit (.int .i64 (frame))))], [], .sv (.one (.hd 0)), [(0, some (.row 3 1 ((qaq t frame).map eI)))], [0], []⟩
theorem ql3 (t : GTable) (frame : Int) (hl : t.Entries.length <= 1048576) : Fn Tryz.prog (qej t frame) := by
 refine qm qf Tryz.func171 rfl Tryz.call171 Tryz.ntmps171 Tryz.results171 rfl rfl rfl rfl ?_
 intro X ρ0 hb_ hgl_
 dsimp only [qej]
 try refine nrm ?_
 repeat' (refine qj ?_; first | refine st1 ?_ | (first | ((first | refine qc qf (inps := []) rfl ?_ ?_); rotate_left; (try refine nrm ?_); rotate_right) | refine ret3 ?_ | refine end3 ?_) | (refine ql rfl trivial ?_ ?_ <;> intro hc_ <;> (try simp only [qg, inB, reduceCtorEq, cds] at hc_) <;> (try (first | contradiction | (exfalso; omega)))) | refine qi (And.intro ?_ (wk3 ?_)))
 all_goals (first | refine qj ?_ | (try (focus ((try refine nrmO ?_); (repeat' (first | exact True.intro | apply And.intro)); all_goals (try (intro (hg_ : _ = true); (try simp only [qg, inB, reduceCtorEq, cds] at hg_); (repeat' (first | exact True.intro | apply And.intro)))); all_goals (first | exact ob1 | skip)))))
 refine qnp (s := 5) (T := 3) (q := 1) (r := 90000) rfl rfl ?_
 refine qaf 3831 (by dsimp only [qay] <;> exact rfl) ?_
 refine qai (t.Entries.length) (fun i => True) (fun i => [(11, (TV.sv (.one (.lit (.int .i64 (i)))))), (5, (TV.sv (.one (.hd 90000))))]) (fun i => [(90000, some (.row 3 1 ((qa6 frame 0 (t.Entries.take i)).map eI)))]) ?_ ?_ ?_
 rotate_left
 ·first | trivial | simp
 (dsimp only [zx, yx, Int.toNat_natCast, ro, Nat.reduceAdd, Nat.reduceMul, Nat.zero_add, List.map, putT, app, zn, gOb, argT, keys, yg, dropped, gAnd, wB, rnT, rnS, rnC, rnCs, rnSs, rnM, rnB, rnN, rn, lk, St.over, ded, delL, jo, menT, jw, menS, jv, menC, hasN, resT, SV.cells]; refine wk3 ?_; (focus ((try refine nrmO ?_); (repeat' (first | exact True.intro | apply And.intro)); all_goals (try (intro (hg_ : _ = true); (try simp only [qg, inB, reduceCtorEq, cds] at hg_); (repeat' (first | exact True.intro | apply And.intro)))); all_goals (first | exact ob1 | exact rfl | skip))))
 rotate_right
 intro i hi_ hiI_
 dsimp only [zx, yx, Int.toNat_natCast, ro, Nat.reduceAdd, Nat.reduceMul, Nat.zero_add, List.map, putT, app, zn, gOb, argT, keys, yg, dropped, gAnd, wB, rnT, rnS, rnC, rnCs, rnSs, rnM, rnB, rnN, rn, lk, St.over, ded, delL, jo, menT, jw, menS, jv, menC, hasN, resT, SV.cells]
 repeat' (refine qj ?_; first | refine st1 ?_ | (first | ((first | refine qc (id := 4) qf (inps := [.elem (xe (t.Entries.getD i ⟨0, 0⟩))]) rfl ?_ ?_ | refine qc (id := 5) qf (inps := [.call (y7 (t.Entries.getD i ⟨0, 0⟩).Mode (t.Entries.getD i ⟨0, 0⟩).Frame)]) rfl ?_ ?_ | refine qc qf (inps := []) rfl ?_ ?_); rotate_left; (try dsimp only [y7]); (try refine nrm ?_); rotate_right) | refine ret3 ?_ | refine end3 ?_) | (refine ql rfl trivial ?_ ?_ <;> intro hc_ <;> (try simp only [qg, inB, reduceCtorEq, cds] at hc_) <;> (try (first | contradiction | (exfalso; omega)))) | refine qi (And.intro ?_ (wk3 ?_)))
 all_goals (first | refine qj ?_ | (try (focus ((try refine nrmO ?_); (repeat' (first | exact True.intro | apply And.intro)); all_goals (try (intro (hg_ : _ = true); (try simp only [qg, inB, reduceCtorEq, cds] at hg_); (repeat' (first | exact True.intro | apply And.intro)))); all_goals (first | exact ob1 | exact qa3 _ _ | skip)))))
 ·have := qh4 frame 0 (t.Entries.take i)
  simp only [List.length_map, List.length_take, List.length_cons, List.length_nil] at *
  omega
 ·rw [qfa _ _ _ _ (getD_at (x := ⟨0, 0⟩) (by omega)), if_pos hc_, List.map_append, qan]; rfl
 ·rw [qfa _ _ _ _ (getD_at (x := ⟨0, 0⟩) (by omega)), if_neg (by omega), List.append_nil]
 ·rw [List.take_of_length_le (by omega)]; rfl
end Eng
end Go.Proofs.YtfiofmaknndpcaaGreatDoor

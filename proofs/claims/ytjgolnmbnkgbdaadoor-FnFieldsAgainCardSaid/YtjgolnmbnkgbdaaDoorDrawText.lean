/- The strings of drawn bytes, and of one repeated byte. -/
import Derived.Test.YtjgolnmbnkgbdaaDoorDraw
import Derived.Test.YtjgolnmbnkgbdaaDoorOwn
import Derived.Deep.AppendLies
namespace Go.Proofs.YtjgolnmbnkgbdaaDoor
open Go.RowKit
namespace Dr
open Own
theorem info_u8 : (Tryd.prog.info? 5).map (fun i => (i.zero, i.size, i.bytes)) = some (some (.int .u8 0), 1, 1) := by kernel_rfl
theorem Step.own {w w' : World} {k : Nat} {a : Option Addr} {len cap : Nat} {zs : List Int} (s : Step w w' k a len cap zs) {base : Nat} {e : TypeId} {size : Nat} {v : Value} {n : Nat} {xs : List Value} (h : w.ownsRow base e size v n xs) (hk : k < base) : w'.ownsRow base e size v n xs :=
  h.kept s.grown (by
    cases hv : v.ownBlock with
    | none => exact .inl rfl
    | some g => exact .inr (fun e => by have := (h.lt g hv).1; injection e with e; omega))
theorem Step.append {w w' w'' : World} {k : Nat} {a : Option Addr} {len cap : Nat} {zs : List Int} (s : Step w w' k a len cap zs) {base : Nat} {v : Value} (hw : w.heap.size ≤ base) (hk : k < base) (hv : ∀ j, v.ownBlock = some j → base ≤ j) (hg : w'.grownBy w'' v.ownBlock) : Step w w'' k a len cap zs := by
  have hs := s.src
  have h2 : Src w'' k a len cap zs := hs.of_block fun j hj => hg.block j (Nat.lt_of_le_of_lt hj hs.lt) (fun e => by have := hv j e.symm; omega)
  refine ⟨⟨hg.os.trans s.grown.os, hg.tape.trans s.grown.tape, hg.output.trans s.grown.output, Nat.le_trans s.grown.size hg.size, fun j hj hne => ?_⟩, h2⟩
  rw [hg.block j (Nat.lt_of_lt_of_le hj s.grown.size) (fun e => by have := hv j e.symm; omega)]
  exact s.grown.block j hj hne
theorem bys_one (x : Int) (h0 : 0 ≤ x) (h1 : x ≤ 255) : bys [UInt8.ofNat x.toNat] = [Value.int .u8 x] := by
  have e : ((UInt8.ofNat x.toNat).toNat : Int) = x := by
    have : (UInt8.ofNat x.toNat).toNat = x.toNat := by simp; omega
    rw [this]; omega
  simp only [bys, List.map_cons, List.map_nil]; rw [e]

def TextP (n : Nat) (w : World) (k : Nat) (a : Option Addr) (len cap : Nat) (zs : List Int) (e : Ending) (w' : World) : Prop :=
  ∃ l : List UInt8, l.length = n ∧ e = .returned (.string ⟨l.toArray⟩) ∧ Step w w' k a len cap zs

theorem text {w : World} {k : Nat} {a : Option Addr} {len cap : Nat} {zs : List Int} (hs : Src w k a len cap zs) (n : Nat) (hn : n ≤ 5000) :
    Calls Tryd.prog 25 #[.pointer (some ⟨k, 0, none⟩), .int .i64 n] w (TextP n w k a len cap zs) := by
  have hn' : (n : Int) ≤ 5000 := by omega
  have HS := Lib.hid hs; clear hs
  have HK := Lib.hid HS.out.lt
  obtain ⟨i0, hi, hz0, hz1, hz2⟩ := info_parts info_u8
  go_enter Tryd.func25, Tryd.ntmps25
  go_wp2
  have hown0 := World.ownsRow_made (e := 5) (size := 1) w #[] 0 (Nat.le_refl w.heap.size) (by unfold maxLen; omega) rfl
  have hst0 := HS.out.refl.alloc (.cells #[] 5)
  go_loopw [5, 6] (fun d c wr => ∃ (j : Nat) (l : List UInt8), j ≤ n ∧ c = .int .i64 j ∧ Hid (l.length = j) ∧ Hid (wr.ownsRow w.heap.size 5 1 d j (bys l)) ∧ Hid (Step w wr k a len cap zs)) (fun _ c _ => n - (intOf c).toNat)
  case atStart => exact ⟨0, [], Nat.zero_le _, rfl, rfl, hown0, hst0⟩
  case round =>
    clear hown0 hst0
    obtain ⟨j, l, hj, rfl, HL, HO, HT⟩ := hrel
    by_cases hlt : (j : Int) < n
    · go_wp2_with fail
      refine (byte HT.out.src).mono ?_
      rintro e w1 ⟨x, hx0, hx1, rfl, hst⟩
      have HO1 := Lib.hid (hst.own HO.out HK.out)
      have HT1 := Lib.hid (HT.out.trans hst); clear hst
      go_wp2_with (at_builtin; refine wpList_append_own _ rfl (.tmp 15) (.tmp 19) 22 rfl w.heap.size 5 i0 (.int .u8 0) 1 1 Tryd.underlying22 hi hz0 hz1 hz2 rfl (by decide) u5 j _ rfl (HO1.out.alloc _) ⟨w1.heap.size, 0, none⟩ 1 1 [_] rfl rfl (World.news_of_block (cs := #[_]) (heap_alloc_new w1 _)) (by simp [Value.oneCell']) (by unfold maxLen; omega) (by omega) (by simp; have := HT1.out.grown.size; omega) ?_; intro v2 w2 ho2 hg2 _)
      have HO2 : Hid (w2.ownsRow w.heap.size 5 1 v2 (j + 1) (bys (l ++ [UInt8.ofNat x.toNat]))) := by show World.ownsRow _ _ _ _ _ _ _; rw [bys_append, bys_one x hx0 hx1]; exact ho2
      have HT2 := Lib.hid ((HT1.out.alloc _).append (Nat.le_refl _) HK.out (fun b hb => (HO1.out.lt b hb).1) hg2)
      clear ho2 hg2
      go_wp2
      go_roundw
      case rel => exact ⟨j + 1, l ++ [UInt8.ofNat x.toNat], by omega, by go_num, by show _ = _; rw [List.length_append, HL.out]; rfl, HO2.out, HT2.out⟩
      case measure => simp [intOf]; omega
    · obtain rfl : j = n := by omega
      have ho := HO.out
      rw [← HL.out] at ho
      have hcv := Own.to_string (P := Tryd.prog) 22 9 5 ho Tryd.underlying22 Tryd.underlying5 Tryd.underlying9
      clear ho
      go_wp2
      go_ret
      exact ⟨l, HL.out, rfl, HT.out⟩

def LongP (n : Nat) (w : World) (e : Ending) (w' : World) : Prop :=
  ∃ l : List UInt8, l.length = n ∧ e = .returned (.string ⟨l.toArray⟩) ∧ w.grownBy w' none
theorem zero_bys (n : Nat) : (madeCells (Value.int .u8 0).cells (n * 1)).toList = bys (List.replicate n 0) := by
  rw [Nat.mul_one]
  show (madeCells #[Value.int .u8 0] n).toList = _
  rw [toList_madeCells_one]
  simp [bys]
theorem long (n : Nat) (x : Int) (w : World) (hn : n ≤ 100000) (h0 : 0 ≤ x) (h1 : x ≤ 255) :
    Calls Tryd.prog 23 #[.int .i64 n, .int .u8 x] w (LongP n w) := by
  have hn' : (n : Int) ≤ 100000 := by omega
  obtain ⟨i0, hi, hz0, hz1, hz2⟩ := info_parts info_u8
  go_enter Tryd.func23, Tryd.ntmps23
  go_wp2_with (at_make; refine wpList_make_full _ rfl _ _ 22 rfl w.heap.size 5 i0 (.int .u8 0) 1 Tryd.underlying22 hi hz0 hz1 .i64 .i64 _ _ n rfl rfl rfl rfl (by rw [hz2]; omega) (by unfold maxLen; omega) (Nat.le_refl _) ?_; intro w0 hown0 hgrow0)
  rw [zero_bys] at hown0
  have HG0 := Lib.hid hgrow0; clear hgrow0
  go_loopw [6] (fun c wr => ∃ (j : Nat) (l : List UInt8), j ≤ n ∧ c = .int .i64 j ∧ Hid (l.length = n) ∧ Hid (wr.ownsRow w.heap.size 5 1 (.slice (some ⟨w.heap.size, 0, none⟩) n n) n (bys l)) ∧ Hid (w.grownBy wr none)) (fun c _ => n - (intOf c).toNat)
  case atStart => exact ⟨0, _, Nat.zero_le _, rfl, List.length_replicate, hown0, HG0.out⟩
  case round =>
    clear hown0
    obtain ⟨j, l, hj, rfl, HL, HO, HG⟩ := hrel
    by_cases hlt : (j : Int) < n
    · have hj0 : (0 : Int) ≤ j := by omega
      have hc : ∃ y, wr.cell? ⟨w.heap.size, j, none⟩ = some y := by
        rw [HO.out.cellAt j (by omega)]
        exact ⟨_, List.getElem?_eq_getElem (by rw [bys_length, HL.out]; omega)⟩
      obtain ⟨y, hc⟩ := hc
      have hf := HO.out.frozenAt j
      have hst := HO.out.stored j (.int .u8 x)
      have HO1 : Hid ((wr.setCell ⟨w.heap.size, j, none⟩ (.int .u8 x)).ownsRow w.heap.size 5 1 (.slice (some ⟨w.heap.size, 0, none⟩) n n) n (bys (l.set j (UInt8.ofNat x.toNat)))) := by
        show World.ownsRow _ _ _ _ _ _ _
        have e : bys (l.set j (UInt8.ofNat x.toNat)) = (bys l).set j (.int .u8 x) := by
          have e1 := bys_one x h0 h1
          simp only [bys, List.map_cons, List.map_nil, List.cons.injEq, and_true] at e1
          simp only [bys, List.map_set]; rw [e1]
        rw [e]; exact hst.1
      have HG1 : Hid (w.grownBy (wr.setCell ⟨w.heap.size, j, none⟩ (.int .u8 x)) none) := by
        have g2 := hst.2
        have g1 := HG.out
        exact ⟨g2.os.trans g1.os, g2.tape.trans g1.tape, g2.output.trans g1.output, Nat.le_trans g1.size g2.size, fun b hb _ => (g2.block b (Nat.lt_of_lt_of_le hb g1.size) (fun e => by injection e with e; omega)).trans (g1.block b hb (by simp))⟩
      clear hst
      go_wp2
      go_roundw
      case rel => exact ⟨j + 1, _, by omega, by go_num, by show _ = _; rw [List.length_set]; exact HL.out, HO1.out, HG1.out⟩
      case measure => simp [intOf]; omega
    · obtain rfl : j = n := by omega
      have ho := HO.out
      have hl := HL.out
      have hcv := Own.to_string (P := Tryd.prog) (l := l) 22 9 5 (by rw [hl]; exact ho) Tryd.underlying22 Tryd.underlying5 Tryd.underlying9
      clear ho hl
      go_wp2
      go_ret
      exact ⟨l, HL.out, rfl, HG.out⟩
end Dr
end Go.Proofs.YtjgolnmbnkgbdaaDoor

/- The twelve numbers that DrawPlaces draws lie from 0 to 9999; nothing that was there is written. -/
import Derived.Test.YtkmkpjpopobdbaaDoorDraw
import Derived.Test.YtkmkpjpopobdbaaDoorIntList
import Derived.Deep.AppendLies
namespace Go.Proofs.YtkmkpjpopobdbaaDoor
open Go.RowKit
namespace Dr
open Own Il
theorem info_int : (Tryd.prog.info? 3).map (fun i => (i.zero, i.size, i.bytes)) = some (some (.int .i64 0), 1, 8) := by kernel_rfl
theorem Step.keep {w w' : World} {k : Nat} {a : Option Addr} {len cap : Nat} {zs : List Int} (s : Step w w' k a len cap zs) {base : Nat} {e : TypeId} {size : Nat} {v : Value} {n : Nat} {xs : List Value} (h : w.ownsRow base e size v n xs) (hk : k < base) : w'.ownsRow base e size v n xs :=
  h.kept s.grown (by
    cases hv : v.ownBlock with
    | none => exact .inl rfl
    | some g => exact .inr (fun e => by have := (h.lt g hv).1; injection e with e; omega))
theorem Step.push {w w' w'' : World} {k : Nat} {a : Option Addr} {len cap : Nat} {zs : List Int} (s : Step w w' k a len cap zs) {base : Nat} {v : Value} (hw : w.heap.size ≤ base) (hk : k < base) (hv : ∀ j, v.ownBlock = some j → base ≤ j) (hg : w'.grownBy w'' v.ownBlock) : Step w w'' k a len cap zs := by
  have hs := s.src
  have h2 : Src w'' k a len cap zs := hs.of_block fun j hj => hg.block j (Nat.lt_of_le_of_lt hj hs.lt) (fun e => by have := hv j e.symm; omega)
  refine ⟨⟨hg.os.trans s.grown.os, hg.tape.trans s.grown.tape, hg.output.trans s.grown.output, Nat.le_trans s.grown.size hg.size, fun j hj hne => ?_⟩, h2⟩
  rw [hg.block j (Nat.lt_of_lt_of_le hj s.grown.size) (fun e => by have := hv j e.symm; omega)]
  exact s.grown.block j hj hne
/-- the places: twelve numbers from 0 to 9999, in memory of the call's own -/
def PlacesP (w : World) (e : Ending) (w' : World) : Prop :=
  ∃ (v : Value) (l : List Int), l.length = 12 ∧ (∀ x ∈ l, 0 ≤ x ∧ x < 10000) ∧ e = .returned v ∧ w'.ownsRow w.heap.size 3 1 v 12 (ints l) ∧ Below w.heap.size w w'
theorem Step.stays4 {w w1 w2 : World} {a : Option Addr} {len cap : Nat} {zs : List Int} (h : Below w.heap.size w w1) (s : Step w1 w2 w.heap.size a len cap zs) : Below w.heap.size w w2 :=
  h.grown s.grown h.size (fun k hk => by cases hk; omega)
theorem own_low {w : World} {base b2 : Nat} {e : TypeId} {size : Nat} {v : Value} {n : Nat} {xs : List Value} (h : w.ownsRow base e size v n xs) (hb : b2 ≤ base) : w.ownsRow b2 e size v n xs := by
  refine ⟨h.1, ?_⟩
  rcases h.2 with hn | ⟨g, cap, cur, rfl, hg, rest⟩
  · exact .inl hn
  · exact .inr ⟨g, cap, cur, rfl, Nat.le_trans hb hg, rest⟩
theorem drawPlaces {w : World} {a : Option Addr} {len cap : Nat} {zs : List Int} (hr : IsRow .u8 w a len cap zs) (hlen : len ≤ 1048576) :
    Calls Tryd.prog 10 #[.slice a len cap] w (PlacesP w) := by
  have HR := Lib.hid hr; clear hr
  obtain ⟨i0, hi, hz0, hz1, hz2⟩ := info_parts info_int
  go_enter Tryd.func10, Tryd.ntmps10
  go_wp2_with fail
  refine (new HR.out hlen).mono ?_
  rintro e w1 ⟨rfl, hb1, hs1⟩
  have HB := Lib.hid hb1; clear hb1
  have H1 := Lib.hid hs1; clear hs1
  have HK := Lib.hid H1.out.lt
  go_wp2
  have hown0 := World.ownsRow_made (e := 3) (size := 1) w1 #[] 0 (Nat.le_refl w1.heap.size) (by unfold maxLen; omega) rfl
  have hst0 := H1.out.refl.alloc (.cells #[] 3)
  go_loopw [4, 5] (fun d c wr => ∃ (j : Nat) (l : List Int), j ≤ 12 ∧ c = .int .i64 j ∧ Hid (l.length = j) ∧ Hid (∀ x ∈ l, 0 ≤ x ∧ x < 10000) ∧ Hid (wr.ownsRow w1.heap.size 3 1 d j (ints l)) ∧ Hid (Step w1 wr w.heap.size a len cap zs)) (fun _ c _ => 12 - (intOf c).toNat)
  case atStart => exact ⟨0, [], Nat.zero_le _, rfl, rfl, (by intro x hx; cases hx), hown0, hst0⟩
  case round =>
    clear hown0 hst0
    obtain ⟨j, l, hj, rfl, HL, HX, HO, HT⟩ := hrel
    by_cases hlt : (j : Int) < 12
    · go_wp2_with fail
      refine (below HT.out.src _).mono ?_
      rintro e w2 ⟨x, hx0, hx1, _, rfl, hst⟩
      have hx2 : x < 10000 := hx1 (by omega)
      clear hx1
      have HO1 := Lib.hid (hst.keep HO.out HK.out)
      have HT1 := Lib.hid (HT.out.trans hst); clear hst
      go_wp2_with (at_builtin; refine wpList_append_own _ rfl (.tmp 13) (.tmp 16) 34 rfl w1.heap.size 3 i0 (.int .i64 0) 1 8 Tryd.underlying34 hi hz0 hz1 hz2 rfl (by decide) u4 j _ rfl (HO1.out.alloc _) ⟨w2.heap.size, 0, none⟩ 1 1 [_] rfl rfl (World.news_of_block (cs := #[_]) (heap_alloc_new w2 _)) (by simp [Value.oneCell']) (by unfold maxLen; omega) (by omega) (by simp; have := HT1.out.grown.size; omega) ?_; intro v3 w3 ho3 hg3 _)
      have HO3 : Hid (w3.ownsRow w1.heap.size 3 1 v3 (j + 1) (ints (l ++ [x]))) := by show World.ownsRow _ _ _ _ _ _ _; rw [ints_append]; exact ho3
      have HT3 := Lib.hid ((HT1.out.alloc _).push (Nat.le_refl _) HK.out (fun b hb => (HO1.out.lt b hb).1) hg3)
      have HX3 : Hid (∀ y ∈ l ++ [x], 0 ≤ y ∧ y < 10000) := by
        intro y hy
        rcases List.mem_append.1 hy with hy | hy
        · exact HX.out y hy
        · simp only [List.mem_cons, List.not_mem_nil, or_false] at hy; subst hy; exact ⟨hx0, hx2⟩
      clear ho3 hg3
      go_wp2
      go_roundw
      case rel => exact ⟨j + 1, l ++ [x], by omega, by go_num, by show _ = _; rw [List.length_append, HL.out]; rfl, HX3.out, HO3.out, HT3.out⟩
      case measure => simp [intOf]; omega
    · obtain rfl : j = 12 := by omega
      go_wp2
      go_ret
      exact ⟨_, l, HL.out, HX.out, rfl, own_low HO.out HB.out.size, Step.stays4 HB.out HT.out⟩
end Dr
end Go.Proofs.YtkmkpjpopobdbaaDoor

/- Physical frames: the program's functions that read. -/
import Derived.Test.YtmajlgnjgnodoaaS05b
namespace Go.Proofs.Ytmajlgnjgnodoaa
open Go.RowKit
set_option linter.unusedVariables false
namespace Tr
theorem impl_value (v : Int) (w : World) : Calls Try.prog 48 #[.int .i64 v] w fun e w' => e = .returned (.bool (decide (0 ≤ v ∧ v ≤ 999))) ∧ w = w' := by
  by_cases h1 : 0 ≤ v
  · by_cases h2 : v ≤ 999
    · have HF : Hid (decide (0 ≤ v ∧ v ≤ 999) = true) := decide_eq_true ⟨h1, h2⟩
      go_enter Try.func48, Try.ntmps48
      go_wp2
      go_ret
      exact ⟨by rw [HF.out]; rfl, rfl⟩
    · have HF : Hid (decide (0 ≤ v ∧ v ≤ 999) = false) := decide_eq_false (fun h => h2 h.2)
      have h3 : decide (v ≤ 999) = false := decide_eq_false h2
      clear h2
      go_enter Try.func48, Try.ntmps48
      go_wp2
      go_ret
      exact ⟨by rw [HF.out]; rfl, rfl⟩
  · have HF : Hid (decide (0 ≤ v ∧ v ≤ 999) = false) := decide_eq_false (fun h => h1 h.1)
    have h3 : decide (0 ≤ v) = false := decide_eq_false h1
    clear h1
    go_enter Try.func48, Try.ntmps48
    go_wp2
    go_ret
    exact ⟨by rw [HF.out]; rfl, rfl⟩
theorem impl_cell (v : Int) (w : World) : Calls Try.prog 41 #[.int .i64 v] w fun e w' => e = .returned (.bool (decide (0 ≤ v ∧ v ≤ 15))) ∧ w = w' := by
  by_cases h1 : 0 ≤ v
  · by_cases h2 : v ≤ 15
    · have HF : Hid (decide (0 ≤ v ∧ v ≤ 15) = true) := decide_eq_true ⟨h1, h2⟩
      have h3 : decide (v < 16) = true := decide_eq_true (by omega)
      go_enter Try.func41, Try.ntmps41
      go_wp2
      go_ret
      exact ⟨by rw [HF.out]; rfl, rfl⟩
    · have HF : Hid (decide (0 ≤ v ∧ v ≤ 15) = false) := decide_eq_false (fun h => h2 h.2)
      have h3 : decide (v < 16) = false := decide_eq_false (by omega)
      clear h2
      go_enter Try.func41, Try.ntmps41
      go_wp2
      go_ret
      exact ⟨by rw [HF.out]; rfl, rfl⟩
  · have HF : Hid (decide (0 ≤ v ∧ v ≤ 15) = false) := decide_eq_false (fun h => h1 h.1)
    have h3 : decide (0 ≤ v) = false := decide_eq_false h1
    clear h1
    go_enter Try.func41, Try.ntmps41
    go_wp2
    go_ret
    exact ⟨by rw [HF.out]; rfl, rfl⟩
theorem impl_frameOk (r : List Int) (u : Bool) (A : Option Addr) (m cap : Nat) (b : List Nat) (w : World) (h : Own w (eIntS r) [.slice A m cap] b) (hm' : m ≤ 1048576) : Calls Try.prog 44 #[.slice A m cap, .bool u] w fun e w' => e = .returned (.bool (decide (okRow u r))) ∧ w = w' := by
  obtain ⟨A', m', cap', e, hm, _, _, hA⟩ := read_ints (T := 3) h
  rw [Value.slice.injEq] at e
  obtain ⟨rfl, rfl, rfl⟩ := e
  have HA := Lib.hid hA
  have HM := Lib.hid hm
  have HNO : Hid (∀ P : Prop, (okRow u r → P) → ¬ P → decide (okRow u r) = false) := fun P hp hnp => decide_eq_false (fun hh => hnp (hp hh))
  clear h hA hm
  by_cases h16 : m = 16
  · subst h16
    go_enter Try.func44, Try.ntmps44
    go_wp2_with fail
    go_loop [12] (fun c => ∃ k : Nat, k ≤ 16 ∧ c = .int .i64 k ∧ Hid (∀ v ∈ r.take k, okV u v)) (fun c => 16 - (intOf c).toNat)
    case atStart => exact ⟨0, Nat.zero_le _, rfl, by intro v hv; simp at hv⟩
    case round =>
      obtain ⟨k, hk, rfl, HV⟩ := hrel
      by_cases hlk : (k : Int) < 16
      · have hk0 : (0 : Int) ≤ k := by omega
        obtain ⟨g3, o3, v, rfl, hv, hcv⟩ := HA.out k (by omega)
        have HVV := Lib.hid hv
        clear hv
        go_wp2_with fail
        refine (impl_value _ _).mono ?_
        rintro e w' ⟨rfl, rfl⟩
        by_cases hin : 0 ≤ v ∧ v ≤ 999
        · have hd : decide (0 ≤ v ∧ v ≤ 999) = true := decide_eq_true hin
          rw [hd]
          clear hd
          cases u with
          | true =>
            have HV2 : Hid (∀ x ∈ r.take (k + 1), okV true x) := mem_take_succ HVV.out HV.out ⟨hin, Or.inl rfl⟩
            go_wp2
            go_round
            case rel => exact ⟨k + 1, by omega, by go_num, HV2.out⟩
            case measure => simp [intOf]; omega
          | false =>
            by_cases hv0 : v = 0
            · have HV2 : Hid (∀ x ∈ r.take (k + 1), okV false x) := mem_take_succ HVV.out HV.out ⟨hin, Or.inr hv0⟩
              subst hv0
              go_wp2
              go_round
              case rel => exact ⟨k + 1, by omega, by go_num, HV2.out⟩
              case measure => simp [intOf]; omega
            · have hb : (v != 0) = true := by rw [bne_iff_ne]; exact hv0
              have HF : Hid (decide (okRow false r) = false) := HNO.out _ (fun hh => hh.2 v (List.mem_of_getElem? HVV.out)) (fun hh => by have := hh.2; simp at this; exact hv0 this)
              clear hv0
              go_wp2
              go_ret
              exact ⟨by rw [HF.out]; rfl, rfl⟩
        · have HF : Hid (decide (okRow u r) = false) := HNO.out _ (fun hh => hh.2 v (List.mem_of_getElem? HVV.out)) (fun hh => hin hh.1)
          have hd : decide (0 ≤ v ∧ v ≤ 999) = false := decide_eq_false hin
          rw [hd]
          clear hd hin
          go_wp2
          go_ret
          exact ⟨by rw [HF.out]; rfl, rfl⟩
      · obtain rfl : k = 16 := by omega
        have HF : Hid (decide (okRow u r) = true) := decide_eq_true ⟨HM.out.symm, by have := HV.out; rw [HM.out, List.take_length] at this; exact this⟩
        go_wp2
        go_ret
        exact ⟨by rw [HF.out]; rfl, rfl⟩
  · have hb : ((m : Int) != 16) = true := by rw [bne_iff_ne]; omega
    have HF : Hid (decide (okRow u r) = false) := HNO.out _ (fun hh => hh.1) (fun hh => h16 (by rw [HM.out]; exact hh))
    clear h16
    go_enter Try.func44, Try.ntmps44
    go_wp2
    go_ret
    exact ⟨by rw [HF.out]; rfl, rfl⟩
end Tr
end Go.Proofs.Ytmajlgnjgnodoaa

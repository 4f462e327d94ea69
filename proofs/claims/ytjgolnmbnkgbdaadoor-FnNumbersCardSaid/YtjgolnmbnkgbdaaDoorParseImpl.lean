/- ParseUint of the program: the number whose text is the string, or 0 and false, for every string of at most 2^48 bytes, where the listed variables hold what the program's text lays. -/
import Derived.Test.YtjgolnmbnkgbdaaDoorParse
namespace Go.Proofs.YtjgolnmbnkgbdaaDoor
open Go.RowKit
namespace Num
open Own Hex Fmt
theorem below_bytes (w : World) (e : TypeId) (t : ByteArray) : Below w.heap.size w (Lib.bytesWorld w e t) :=
  ⟨rfl, rfl, rfl, by rw [Lib.bytesWorld_size]; omega, fun j hj => Lib.bytesWorld_at_old w e t j hj⟩

theorem impl_bad (s : ByteArray) (w : World) (hlim : s.size ≤ 281474976710656) (hT : Laid.HasE w) (hno : ∀ v, Lib.atoiAll s.data.toList ≠ .ok v) :
    Calls Tryd.prog 14 #[.string s] w (RetU s.data.toList w) := by
  have HT := Lib.hid hT; clear hT
  have HN : Hid (∀ n, ¬ Canon s.data.toList n) := fun n hn => hno n hn.atoi
  have HLIM := Lib.hid hlim; clear hlim
  rcases hr : Lib.atoiAll s.data.toList with v | _ | _
  · exact absurd hr (hno v)
  · have HR := Lib.hid hr; clear hr hno
    obtain ⟨tp, p, hv⟩ := HT.out.eErrSyntax
    have HV := Lib.hid hv; clear hv
    go_enter Tryd.func14, Tryd.ntmps14
    go_wp2_with fail
    refine (Go.Proofs.Any.strconv_Atoi_syntax_var Tryd.laysC172 s HLIM.out HR.out tp p w HV.out).mono ?_
    rintro e w1 ⟨M, rfl, _, _, hb⟩
    have HB := Lib.hid hb; clear hb
    go_wp2
    go_ret2
    exact RetU.no HN.out HB.out
  · have HR := Lib.hid hr; clear hr hno
    obtain ⟨tp, p, hv⟩ := HT.out.eErrRange
    have HV := Lib.hid hv; clear hv
    go_enter Tryd.func14, Tryd.ntmps14
    go_wp2_with fail
    refine (Go.Proofs.Any.strconv_Atoi_range_var Tryd.laysC172 s HLIM.out HR.out tp p w HV.out).mono ?_
    rintro e w1 ⟨M, rfl, _, _, hb⟩
    have HB := Lib.hid hb; clear hb
    go_wp2
    go_ret2
    exact RetU.no HN.out HB.out

theorem impl_good (s : ByteArray) (w : World) (hlim : s.size ≤ 281474976710656) (hT : Laid.HasE w) (v : Int) (hok : Lib.atoiAll s.data.toList = .ok v) :
    Calls Tryd.prog 14 #[.string s] w (RetU s.data.toList w) := by
  have HT := Lib.hid hT; clear hT
  have HLIM := Lib.hid (show s.size ≤ 9223372036854775806 by omega); clear hlim
  have HR := Lib.hid hok
  have HU : Hid (∀ n, Canon s.data.toList n → n = v) := fun n hn => by have := hn.atoi; rw [hok] at this; injection this with this; exact this.symm
  clear hok
  have HVB := Lib.hid (Lib.atoiAll_bounds HR.out)
  go_enter Tryd.func14, Tryd.ntmps14
  go_wp2_with fail
  refine (Tryd.strconv_Atoi_ok s HLIM.out v HR.out w).mono ?_
  rintro e w1 ⟨rfl, hb⟩
  have HB : Hid (Below w.heap.size w w1) := by
    rcases hb with rfl | ⟨t, rfl⟩
    · exact Below.refl _ _
    · exact below_bytes w _ t
  clear hb
  by_cases h0 : v < 0
  · go_wp2
    go_ret2
    exact RetU.no (fun n hn => by have := HU.out n hn; have := hn.1; omega) HB.out
  · by_cases h1 : 1000000000 < v
    · go_wp2
      go_ret2
      exact RetU.no (fun n hn => by have := HU.out n hn; have := hn.2.1; omega) HB.out
    · go_wp2_with fail
      refine (implFormat v w1 (by go_wf2) (HT.out.toHas.below HB.out)).mono ?_
      rintro e w2 ⟨rfl, hb2⟩
      have HB2 := Lib.hid (HB.out.trans (hb2.mono HB.out.size)); clear hb2
      by_cases he : ByteArray.mk (Lib.itoa v).toArray = s
      · have HC : Hid (Canon s.data.toList v) := ⟨by omega, by omega, bytes_eq.1 he⟩
        have hne : ((ByteArray.mk (Lib.itoa v).toArray).toList == s.toList) = true := by rw [he]; simp
        clear he
        generalize ByteArray.mk (Lib.itoa v).toArray = t at *
        go_wp2
        go_ret2
        exact RetU.yes HC.out HB2.out
      · have hne : ((ByteArray.mk (Lib.itoa v).toArray).toList == s.toList) = false := beq_bytes he
        have HN : Hid (∀ n, ¬ Canon s.data.toList n) := fun n hn => he (bytes_eq.2 (by have h2 := HU.out n hn; subst h2; exact hn.2.2))
        clear he
        generalize ByteArray.mk (Lib.itoa v).toArray = t at *
        go_wp2
        go_ret2
        exact RetU.no HN.out HB2.out

theorem impl_parse (s : ByteArray) (w : World) (hlim : s.size ≤ 281474976710656) (hT : Laid.HasE w) :
    Calls Tryd.prog 14 #[.string s] w (RetU s.data.toList w) := by
  by_cases h : ∃ v, Lib.atoiAll s.data.toList = .ok v
  · obtain ⟨v, hv⟩ := h
    exact impl_good s w hlim hT v hv
  · exact impl_bad s w hlim hT (fun v hv => h ⟨v, hv⟩)
end Num
end Go.Proofs.YtjgolnmbnkgbdaaDoor

/- Lemmas for the proofs, part 6 of 6: a symbolic run of the program, and what it needs. -/
import Derived.KernelRfl
import Derived.Test.YtlkkiopjknbomaaGreatDoorPkE5
namespace Go.Proofs.YtlkkiopjknbomaaGreatDoor
open Go.RowKit
set_option linter.unusedVariables false
set_option linter.unusedSimpArgs false
set_option maxRecDepth 100000
namespace Eng
open Tr
theorem used_of {m : GMachine} {page : Int} (hok : okM m) (hm : (pPageEntry m.Table page).Mode ≠ 0) : isUsed m.Frames (pPageEntry m.Table page).Frame := by
  obtain ⟨f, hf, h1, h2, _, _⟩ := okM_entry hok hm
  rw [hf]
  refine ⟨hok.1, ⟨by omega, by omega⟩, ?_⟩
  have h3 := hok.2.2 f h2
  rw [Int.toNat_natCast, h3]
  congr 1
  rw [decide_eq_true_eq]
  unfold pPagesOn
  rw [onFrame_pos]
  by_cases hp : 0 ≤ page ∧ page < m.Table.Entries.length
  · have e : pPageEntry m.Table page = m.Table.Entries.getD page.toNat ⟨0, 0⟩ := by unfold pPageEntry; rw [if_pos hp]
    rw [e] at hm hf
    exact ⟨_, getD_in (by omega), hm, hf⟩
  · unfold pPageEntry at hm; rw [if_neg hp] at hm; exact absurd rfl hm
theorem setP {t : GTable} {page : Int} {e : GEntry} (h : okSet t page e) : pSetPage t page e = (⟨t.Entries.set page.toNat e⟩, true) := by unfold pSetPage; rw [if_pos h]
theorem rem_keep {m : GMachine} {page : Int} {e : GEntry} (hok : okM m) (hm : (pPageEntry m.Table page).Mode ≠ 0) (hs : okSet m.Table page e) (hL : ¬ ((pPagesOn (pSetPage m.Table page e).1 (pPageEntry m.Table page).Frame).length : Int) = 0) :
    Tr.dropped (setEntry m page.toNat e) (pPageEntry m.Table page).Frame.toNat = ⟨m.Frames, ⟨m.Table.Entries.set page.toNat e⟩⟩ := by
  obtain ⟨f, hf, _⟩ := okM_entry hok hm
  rw [hf, setP hs] at hL
  unfold Tr.dropped
  rw [hf, Int.toNat_natCast, if_neg]
  · rfl
  · intro h; exact hL (by exact_mod_cast h)
theorem rem_drop {m : GMachine} {page : Int} {e : GEntry} (hok : okM m) (hm : (pPageEntry m.Table page).Mode ≠ 0) (hs : okSet m.Table page e) (hL : ((pPagesOn (pSetPage m.Table page e).1 (pPageEntry m.Table page).Frame).length : Int) = 0) :
    Tr.dropped (setEntry m page.toNat e) (pPageEntry m.Table page).Frame.toNat = ⟨(pFrameGive m.Frames (pPageEntry m.Table page).Frame).1, ⟨m.Table.Entries.set page.toNat e⟩⟩ := by
  have hG : pFrameGive m.Frames (pPageEntry m.Table page).Frame = (⟨m.Frames.Cells.set (pPageEntry m.Table page).Frame.toNat (List.replicate 16 0), m.Frames.Used.set (pPageEntry m.Table page).Frame.toNat false⟩, true) := by
    unfold pFrameGive; rw [if_pos (used_of hok hm)]
  obtain ⟨f, hf, _⟩ := okM_entry hok hm
  rw [hG]
  rw [hf, setP hs] at hL
  unfold Tr.dropped
  rw [hf, Int.toNat_natCast, if_pos]
  · rfl
  · show (pPagesOn ⟨m.Table.Entries.set page.toNat e⟩ (f : Int)).length = 0; exact_mod_cast hL
def c_KMapOnI (k : GKernel) (page other : Int) : CFD := ⟨149, [.agg [ro 33 1 eIntS k.Machine.Frames.Cells, ro 4 1 Tr.eB k.Machine.Frames.Used, ro 45 2 eEntry k.Machine.Table.Entries, (CV.lit (.int .i64 (k.Calls))), ro 3 1 Tr.eI k.Refuse], (SV.one (.lit (.int .i64 (page)))), (SV.one (.lit (.int .i64 (other))))], [], .tup [.agg [.hd 0, .hd 1, .hd 2, (CV.lit (.int .i64 (((pKMapOn k page other).1).Calls))), .hd 3], (SV.one (.lit (.bool ((pKMapOn k page other).2))))], [(0, some (.row 33 1 (((pKMapOn k page other).1).Machine.Frames.Cells.map eIntS))), (1, some (.row 4 1 (((pKMapOn k page other).1).Machine.Frames.Used.map Tr.eB))), (2, some (.row 45 2 (((pKMapOn k page other).1).Machine.Table.Entries.map eEntry))), (3, some (.row 3 1 (((pKMapOn k page other).1).Refuse.map Tr.eI)))], [0, 1, 2, 3], []⟩
set_option maxHeartbeats 4000000 in
theorem fn_KMapOnI (k : GKernel) (page other : Int) (hs : szK k) : Fn Tryz.prog (c_KMapOnI k page other) := by
  have hse := hs.m.e
  by_cases hC : canCall k
  · have hok : okM k.Machine := hC.1.1
    by_cases hg : granted k
    · have hcn := count_y hC hg
      by_cases hQ : modeOf k page ≠ 0 ∧ modeOf k other ≠ 0 ∧ page ≠ other
      · obtain ⟨h1, h2, h3⟩ := hQ
        have hp := (modeI_in h1).1
        obtain ⟨fo, hfo, _⟩ := okM_entry hok h2
        have hset : okSet k.Machine.Table page ⟨2, (pPageEntry k.Machine.Table other).Frame⟩ := ⟨hp, .inr ⟨.inr rfl, by show 0 ≤ (pPageEntry k.Machine.Table other).Frame; omega⟩⟩
        have hS := setP hset
        unfold modeOf at h1 h2
        by_cases hL : ((pPagesOn (pSetPage k.Machine.Table page ⟨2, (pPageEntry k.Machine.Table other).Frame⟩).1 (pPageEntry k.Machine.Table page).Frame).length : Int) = 0
        · have hV : pKMapOn k page other = (⟨⟨(pFrameGive k.Machine.Frames (pPageEntry k.Machine.Table page).Frame).1, ⟨k.Machine.Table.Entries.set page.toNat ⟨2, (pPageEntry k.Machine.Table other).Frame⟩⟩⟩, k.Calls + 1, k.Refuse⟩, true) := by
            unfold pKMapOn pOn modeOf
            rw [if_pos hC, if_pos ⟨hg, h1, h2, h3⟩, rem_drop hok h1 hset hL]
          refine fn_intro tt_ok Tryz.func149 rfl Tryz.call149 Tryz.ntmps149 Tryz.results149 rfl rfl rfl rfl ?_
          intro X ρ0 hb_ hgl_
          dsimp only [c_KMapOnI]
          try refine nrm ?_
          rw [hV]
          repeat' (refine ar_id ?_; first | refine st1 ?_ | (first | ((first | refine ar_region (id := 1) tt_ok (inps := [.call (c_CountR k ⟨k.Machine, k.Calls + 1, k.Refuse⟩ true)]) rfl ?_ ?_ | refine ar_region (id := 2) tt_ok (inps := [.call (c_PageEntryI k.Machine.Table other)]) rfl ?_ ?_ | refine ar_region (id := 3) tt_ok (inps := [.call (c_PageEntryI k.Machine.Table page), .call (c_isMapped (pPageEntry k.Machine.Table page).Mode (pPageEntry k.Machine.Table page).Frame), .call (c_isMapped (pPageEntry k.Machine.Table other).Mode (pPageEntry k.Machine.Table other).Frame)]) rfl ?_ ?_ | refine ar_region (id := 5) tt_ok (inps := [.call (c_remD k.Machine page ⟨2, (pPageEntry k.Machine.Table other).Frame⟩)]) rfl ?_ ?_ | refine ar_region tt_ok (inps := []) rfl ?_ ?_); rotate_left; (try dsimp only [c_CountR, c_PageEntryI, c_isMapped, c_remD]); (try refine nrm ?_); rotate_right) | refine ret3 ?_ | refine end3 ?_) | (refine ar_cond rfl trivial ?_ ?_ <;> intro hc_ <;> (try simp only [isNilI, inB, reduceCtorEq, cds] at hc_) <;> (try (first | contradiction | (exfalso; omega)))) | refine ar_until (And.intro ?_ (wk3 ?_)))
          all_goals (first | refine ar_id ?_ | (try (focus ((try refine nrmO ?_); (repeat' (first | exact True.intro | refine And.intro ?_ ?_)); all_goals (try (intro (hg_ : _ = true); (try simp only [isNilI, inB, reduceCtorEq, cds] at hg_); (repeat' (first | exact True.intro | refine And.intro ?_ ?_)))); all_goals (first | exact ob1 | exact fn_CountR _ _ _ hs hcn | exact fn_PageEntryI _ _ hse | exact fn_isMapped _ _ | exact fn_remD _ _ _ hs.m hL | skip)))))
          all_goals (try rw [hS])
          all_goals (first | rfl | (exfalso; grind))
        · have hV : pKMapOn k page other = (⟨⟨k.Machine.Frames, ⟨k.Machine.Table.Entries.set page.toNat ⟨2, (pPageEntry k.Machine.Table other).Frame⟩⟩⟩, k.Calls + 1, k.Refuse⟩, true) := by
            unfold pKMapOn pOn modeOf
            rw [if_pos hC, if_pos ⟨hg, h1, h2, h3⟩, rem_keep hok h1 hset hL]
          refine fn_intro tt_ok Tryz.func149 rfl Tryz.call149 Tryz.ntmps149 Tryz.results149 rfl rfl rfl rfl ?_
          intro X ρ0 hb_ hgl_
          dsimp only [c_KMapOnI]
          try refine nrm ?_
          rw [hV]
          repeat' (refine ar_id ?_; first | refine st1 ?_ | (first | ((first | refine ar_region (id := 1) tt_ok (inps := [.call (c_CountR k ⟨k.Machine, k.Calls + 1, k.Refuse⟩ true)]) rfl ?_ ?_ | refine ar_region (id := 2) tt_ok (inps := [.call (c_PageEntryI k.Machine.Table other)]) rfl ?_ ?_ | refine ar_region (id := 3) tt_ok (inps := [.call (c_PageEntryI k.Machine.Table page), .call (c_isMapped (pPageEntry k.Machine.Table page).Mode (pPageEntry k.Machine.Table page).Frame), .call (c_isMapped (pPageEntry k.Machine.Table other).Mode (pPageEntry k.Machine.Table other).Frame)]) rfl ?_ ?_ | refine ar_region (id := 5) tt_ok (inps := [.call (c_remK k.Machine page ⟨2, (pPageEntry k.Machine.Table other).Frame⟩)]) rfl ?_ ?_ | refine ar_region tt_ok (inps := []) rfl ?_ ?_); rotate_left; (try dsimp only [c_CountR, c_PageEntryI, c_isMapped, c_remK]); (try refine nrm ?_); rotate_right) | refine ret3 ?_ | refine end3 ?_) | (refine ar_cond rfl trivial ?_ ?_ <;> intro hc_ <;> (try simp only [isNilI, inB, reduceCtorEq, cds] at hc_) <;> (try (first | contradiction | (exfalso; omega)))) | refine ar_until (And.intro ?_ (wk3 ?_)))
          all_goals (first | refine ar_id ?_ | (try (focus ((try refine nrmO ?_); (repeat' (first | exact True.intro | refine And.intro ?_ ?_)); all_goals (try (intro (hg_ : _ = true); (try simp only [isNilI, inB, reduceCtorEq, cds] at hg_); (repeat' (first | exact True.intro | refine And.intro ?_ ?_)))); all_goals (first | exact ob1 | exact fn_CountR _ _ _ hs hcn | exact fn_PageEntryI _ _ hse | exact fn_isMapped _ _ | exact fn_remK _ _ _ hs.m hL | skip)))))
          all_goals (try rw [hS])
          all_goals (first | rfl | (exfalso; grind))
      · have hV : pKMapOn k page other = (⟨k.Machine, k.Calls + 1, k.Refuse⟩, false) := by unfold pKMapOn pOn; rw [if_pos hC, if_neg (fun h => hQ h.2)]; rfl
        unfold modeOf at hQ
        refine fn_intro tt_ok Tryz.func149 rfl Tryz.call149 Tryz.ntmps149 Tryz.results149 rfl rfl rfl rfl ?_
        intro X ρ0 hb_ hgl_
        dsimp only [c_KMapOnI]
        try refine nrm ?_
        rw [hV]
        repeat' (refine ar_id ?_; first | refine st1 ?_ | (first | ((first | refine ar_region (id := 1) tt_ok (inps := [.call (c_CountR k ⟨k.Machine, k.Calls + 1, k.Refuse⟩ true)]) rfl ?_ ?_ | refine ar_region (id := 2) tt_ok (inps := [.call (c_PageEntryI k.Machine.Table other)]) rfl ?_ ?_ | refine ar_region (id := 3) tt_ok (inps := [.call (c_PageEntryI k.Machine.Table page), .call (c_isMapped (pPageEntry k.Machine.Table page).Mode (pPageEntry k.Machine.Table page).Frame), .call (c_isMapped (pPageEntry k.Machine.Table other).Mode (pPageEntry k.Machine.Table other).Frame)]) rfl ?_ ?_ | refine ar_region tt_ok (inps := []) rfl ?_ ?_); rotate_left; (try dsimp only [c_CountR, c_PageEntryI, c_isMapped]); (try refine nrm ?_); rotate_right) | refine ret3 ?_ | refine end3 ?_) | (refine ar_cond rfl trivial ?_ ?_ <;> intro hc_ <;> (try simp only [isNilI, inB, reduceCtorEq, cds] at hc_) <;> (try (first | contradiction | (exfalso; omega)))) | refine ar_until (And.intro ?_ (wk3 ?_)))
        all_goals (first | refine ar_id ?_ | (try (focus ((try refine nrmO ?_); (repeat' (first | exact True.intro | refine And.intro ?_ ?_)); all_goals (try (intro (hg_ : _ = true); (try simp only [isNilI, inB, reduceCtorEq, cds] at hg_); (repeat' (first | exact True.intro | refine And.intro ?_ ?_)))); all_goals (first | exact ob1 | exact fn_CountR _ _ _ hs hcn | exact fn_PageEntryI _ _ hse | exact fn_isMapped _ _ | skip)))))
        all_goals (first | rfl | (exfalso; grind))
    · have hcn := count_n hC hg
      have hV : pKMapOn k page other = (⟨k.Machine, k.Calls + 1, k.Refuse⟩, false) := by unfold pKMapOn pOn; rw [if_pos hC, if_neg (fun h => hg h.1)]; rfl
      refine fn_intro tt_ok Tryz.func149 rfl Tryz.call149 Tryz.ntmps149 Tryz.results149 rfl rfl rfl rfl ?_
      intro X ρ0 hb_ hgl_
      dsimp only [c_KMapOnI]
      try refine nrm ?_
      rw [hV]
      repeat' (refine ar_id ?_; first | refine st1 ?_ | (first | ((first | refine ar_region (id := 1) tt_ok (inps := [.call (c_CountR k ⟨k.Machine, k.Calls + 1, k.Refuse⟩ false)]) rfl ?_ ?_ | refine ar_region (id := 2) tt_ok (inps := [.call (c_PageEntryI k.Machine.Table other)]) rfl ?_ ?_ | refine ar_region (id := 3) tt_ok (inps := [.skip (SV.one (.lit (.int .i64 (0)))), .skip (SV.one (.lit (.bool (true)))), .skip (SV.one (.lit (.bool (true))))]) rfl ?_ ?_ | refine ar_region tt_ok (inps := []) rfl ?_ ?_); rotate_left; (try dsimp only [c_CountR, c_PageEntryI]); (try refine nrm ?_); rotate_right) | refine ret3 ?_ | refine end3 ?_) | (refine ar_cond rfl trivial ?_ ?_ <;> intro hc_ <;> (try simp only [isNilI, inB, reduceCtorEq, cds] at hc_) <;> (try (first | contradiction | (exfalso; omega)))) | refine ar_until (And.intro ?_ (wk3 ?_)))
      all_goals (first | refine ar_id ?_ | (try (focus ((try refine nrmO ?_); (repeat' (first | exact True.intro | refine And.intro ?_ ?_)); all_goals (try (intro (hg_ : _ = true); (try simp only [isNilI, inB, reduceCtorEq, cds] at hg_); (repeat' (first | exact True.intro | refine And.intro ?_ ?_)))); all_goals (first | exact ob1 | exact fn_CountR _ _ _ hs hcn | exact fn_PageEntryI _ _ hse | skip)))))
      all_goals (first | rfl | (exfalso; grind))
  · have hcn := count_no hC
    have hV : pKMapOn k page other = (k, false) := by unfold pKMapOn; rw [if_neg hC]
    refine fn_intro tt_ok Tryz.func149 rfl Tryz.call149 Tryz.ntmps149 Tryz.results149 rfl rfl rfl rfl ?_
    intro X ρ0 hb_ hgl_
    dsimp only [c_KMapOnI]
    try refine nrm ?_
    rw [hV]
    repeat' (refine ar_id ?_; first | refine st1 ?_ | (first | ((first | refine ar_region (id := 1) tt_ok (inps := [.call (c_CountR k k false)]) rfl ?_ ?_ | refine ar_region (id := 2) tt_ok (inps := [.call (c_PageEntryI k.Machine.Table other)]) rfl ?_ ?_ | refine ar_region (id := 3) tt_ok (inps := [.skip (SV.one (.lit (.int .i64 (0)))), .skip (SV.one (.lit (.bool (true)))), .skip (SV.one (.lit (.bool (true))))]) rfl ?_ ?_ | refine ar_region tt_ok (inps := []) rfl ?_ ?_); rotate_left; (try dsimp only [c_CountR, c_PageEntryI]); (try refine nrm ?_); rotate_right) | refine ret3 ?_ | refine end3 ?_) | (refine ar_cond rfl trivial ?_ ?_ <;> intro hc_ <;> (try simp only [isNilI, inB, reduceCtorEq, cds] at hc_) <;> (try (first | contradiction | (exfalso; omega)))) | refine ar_until (And.intro ?_ (wk3 ?_)))
    all_goals (first | refine ar_id ?_ | (try (focus ((try refine nrmO ?_); (repeat' (first | exact True.intro | refine And.intro ?_ ?_)); all_goals (try (intro (hg_ : _ = true); (try simp only [isNilI, inB, reduceCtorEq, cds] at hg_); (repeat' (first | exact True.intro | refine And.intro ?_ ?_)))); all_goals (first | exact ob1 | exact fn_CountR _ _ _ hs hcn | exact fn_PageEntryI _ _ hse | skip)))))
    all_goals (first | rfl | (exfalso; grind))
theorem self_on {t : GTable} {page : Int} {e : GEntry} (hs : okSet t page e) (he : e.Mode ≠ 0) : ¬ ((pPagesOn (pSetPage t page e).1 e.Frame).length : Int) = 0 := by
  have h : 0 < (pPagesOn (pSetPage t page e).1 e.Frame).length := by
    rw [setP hs]
    unfold pPagesOn
    rw [onFrame_pos]
    exact ⟨e, List.mem_of_getElem? (set_at (by have := hs.1; omega)), he, rfl⟩
  omega
def c_KProtectI (k : GKernel) (page mode : Int) : CFD := ⟨147, [.agg [ro 33 1 eIntS k.Machine.Frames.Cells, ro 4 1 Tr.eB k.Machine.Frames.Used, ro 45 2 eEntry k.Machine.Table.Entries, (CV.lit (.int .i64 (k.Calls))), ro 3 1 Tr.eI k.Refuse], (SV.one (.lit (.int .i64 (page)))), (SV.one (.lit (.int .i64 (mode))))], [], .tup [.agg [.hd 0, .hd 1, .hd 2, (CV.lit (.int .i64 (((pKProtect k page mode).1).Calls))), .hd 3], (SV.one (.lit (.bool ((pKProtect k page mode).2))))], [(0, some (.row 33 1 (((pKProtect k page mode).1).Machine.Frames.Cells.map eIntS))), (1, some (.row 4 1 (((pKProtect k page mode).1).Machine.Frames.Used.map Tr.eB))), (2, some (.row 45 2 (((pKProtect k page mode).1).Machine.Table.Entries.map eEntry))), (3, some (.row 3 1 (((pKProtect k page mode).1).Refuse.map Tr.eI)))], [0, 1, 2, 3], []⟩
set_option maxHeartbeats 4000000 in
theorem fn_KProtectI (k : GKernel) (page mode : Int) (hs : szK k) : Fn Tryz.prog (c_KProtectI k page mode) := by
  have hse := hs.m.e
  by_cases hC : canCall k
  · have hok : okM k.Machine := hC.1.1
    by_cases hg : granted k
    · have hcn := count_y hC hg
      by_cases hQ : modeOf k page ≠ 0 ∧ (1 ≤ mode ∧ mode ≤ 2)
      · obtain ⟨h1, h2⟩ := hQ
        have hp := (modeI_in h1).1
        obtain ⟨fo, hfo, _⟩ := okM_entry hok h1
        have hset : okSet k.Machine.Table page ⟨mode, (pPageEntry k.Machine.Table page).Frame⟩ := ⟨hp, .inr ⟨by show mode = 1 ∨ mode = 2; omega, by show 0 ≤ (pPageEntry k.Machine.Table page).Frame; omega⟩⟩
        have hS := setP hset
        have hL := self_on hset (show mode ≠ 0 by omega)
        unfold modeOf at h1
        have hV : pKProtect k page mode = (⟨⟨k.Machine.Frames, ⟨k.Machine.Table.Entries.set page.toNat ⟨mode, (pPageEntry k.Machine.Table page).Frame⟩⟩⟩, k.Calls + 1, k.Refuse⟩, true) := by
          unfold pKProtect pProtect modeOf
          rw [if_pos hC, if_pos ⟨hg, h1, h2⟩]; rfl
        refine fn_intro tt_ok Tryz.func147 rfl Tryz.call147 Tryz.ntmps147 Tryz.results147 rfl rfl rfl rfl ?_
        intro X ρ0 hb_ hgl_
        dsimp only [c_KProtectI]
        try refine nrm ?_
        rw [hV]
        repeat' (refine ar_id ?_; first | refine st1 ?_ | (first | ((first | refine ar_region (id := 1) tt_ok (inps := [.call (c_CountR k ⟨k.Machine, k.Calls + 1, k.Refuse⟩ true)]) rfl ?_ ?_ | refine ar_region (id := 2) tt_ok (inps := [.call (c_PageEntryI k.Machine.Table page)]) rfl ?_ ?_ | refine ar_region (id := 3) tt_ok (inps := [.call (c_isMapped (pPageEntry k.Machine.Table page).Mode (pPageEntry k.Machine.Table page).Frame)]) rfl ?_ ?_ | refine ar_region (id := 5) tt_ok (inps := [.call (c_remK k.Machine page ⟨mode, (pPageEntry k.Machine.Table page).Frame⟩)]) rfl ?_ ?_ | refine ar_region tt_ok (inps := []) rfl ?_ ?_); rotate_left; (try dsimp only [c_CountR, c_PageEntryI, c_isMapped, c_remK]); (try refine nrm ?_); rotate_right) | refine ret3 ?_ | refine end3 ?_) | (refine ar_cond rfl trivial ?_ ?_ <;> intro hc_ <;> (try simp only [isNilI, inB, reduceCtorEq, cds] at hc_) <;> (try (first | contradiction | (exfalso; omega)))) | refine ar_until (And.intro ?_ (wk3 ?_)))
        all_goals (first | refine ar_id ?_ | (try (focus ((try refine nrmO ?_); (repeat' (first | exact True.intro | refine And.intro ?_ ?_)); all_goals (try (intro (hg_ : _ = true); (try simp only [isNilI, inB, reduceCtorEq, cds] at hg_); (repeat' (first | exact True.intro | refine And.intro ?_ ?_)))); all_goals (first | exact ob1 | exact fn_CountR _ _ _ hs hcn | exact fn_PageEntryI _ _ hse | exact fn_isMapped _ _ | exact fn_remK _ _ _ hs.m hL | skip)))))
        all_goals (try rw [hS])
        all_goals (first | rfl | (exfalso; grind))
      · have hV : pKProtect k page mode = (⟨k.Machine, k.Calls + 1, k.Refuse⟩, false) := by unfold pKProtect pProtect; rw [if_pos hC, if_neg (fun h => hQ h.2)]; rfl
        unfold modeOf at hQ
        refine fn_intro tt_ok Tryz.func147 rfl Tryz.call147 Tryz.ntmps147 Tryz.results147 rfl rfl rfl rfl ?_
        intro X ρ0 hb_ hgl_
        dsimp only [c_KProtectI]
        try refine nrm ?_
        rw [hV]
        repeat' (refine ar_id ?_; first | refine st1 ?_ | (first | ((first | refine ar_region (id := 1) tt_ok (inps := [.call (c_CountR k ⟨k.Machine, k.Calls + 1, k.Refuse⟩ true)]) rfl ?_ ?_ | refine ar_region (id := 2) tt_ok (inps := [.call (c_PageEntryI k.Machine.Table page)]) rfl ?_ ?_ | refine ar_region (id := 3) tt_ok (inps := [.call (c_isMapped (pPageEntry k.Machine.Table page).Mode (pPageEntry k.Machine.Table page).Frame)]) rfl ?_ ?_ | refine ar_region tt_ok (inps := []) rfl ?_ ?_); rotate_left; (try dsimp only [c_CountR, c_PageEntryI, c_isMapped]); (try refine nrm ?_); rotate_right) | refine ret3 ?_ | refine end3 ?_) | (refine ar_cond rfl trivial ?_ ?_ <;> intro hc_ <;> (try simp only [isNilI, inB, reduceCtorEq, cds] at hc_) <;> (try (first | contradiction | (exfalso; omega)))) | refine ar_until (And.intro ?_ (wk3 ?_)))
        all_goals (first | refine ar_id ?_ | (try (focus ((try refine nrmO ?_); (repeat' (first | exact True.intro | refine And.intro ?_ ?_)); all_goals (try (intro (hg_ : _ = true); (try simp only [isNilI, inB, reduceCtorEq, cds] at hg_); (repeat' (first | exact True.intro | refine And.intro ?_ ?_)))); all_goals (first | exact ob1 | exact fn_CountR _ _ _ hs hcn | exact fn_PageEntryI _ _ hse | exact fn_isMapped _ _ | skip)))))
        all_goals (first | rfl | (exfalso; grind))
    · have hcn := count_n hC hg
      have hV : pKProtect k page mode = (⟨k.Machine, k.Calls + 1, k.Refuse⟩, false) := by unfold pKProtect pProtect; rw [if_pos hC, if_neg (fun h => hg h.1)]; rfl
      refine fn_intro tt_ok Tryz.func147 rfl Tryz.call147 Tryz.ntmps147 Tryz.results147 rfl rfl rfl rfl ?_
      intro X ρ0 hb_ hgl_
      dsimp only [c_KProtectI]
      try refine nrm ?_
      rw [hV]
      repeat' (refine ar_id ?_; first | refine st1 ?_ | (first | ((first | refine ar_region (id := 1) tt_ok (inps := [.call (c_CountR k ⟨k.Machine, k.Calls + 1, k.Refuse⟩ false)]) rfl ?_ ?_ | refine ar_region (id := 2) tt_ok (inps := [.call (c_PageEntryI k.Machine.Table page)]) rfl ?_ ?_ | refine ar_region (id := 3) tt_ok (inps := [.skip (SV.one (.lit (.bool (true))))]) rfl ?_ ?_ | refine ar_region tt_ok (inps := []) rfl ?_ ?_); rotate_left; (try dsimp only [c_CountR, c_PageEntryI]); (try refine nrm ?_); rotate_right) | refine ret3 ?_ | refine end3 ?_) | (refine ar_cond rfl trivial ?_ ?_ <;> intro hc_ <;> (try simp only [isNilI, inB, reduceCtorEq, cds] at hc_) <;> (try (first | contradiction | (exfalso; omega)))) | refine ar_until (And.intro ?_ (wk3 ?_)))
      all_goals (first | refine ar_id ?_ | (try (focus ((try refine nrmO ?_); (repeat' (first | exact True.intro | refine And.intro ?_ ?_)); all_goals (try (intro (hg_ : _ = true); (try simp only [isNilI, inB, reduceCtorEq, cds] at hg_); (repeat' (first | exact True.intro | refine And.intro ?_ ?_)))); all_goals (first | exact ob1 | exact fn_CountR _ _ _ hs hcn | exact fn_PageEntryI _ _ hse | skip)))))
      all_goals (first | rfl | (exfalso; grind))
  · have hcn := count_no hC
    have hV : pKProtect k page mode = (k, false) := by unfold pKProtect; rw [if_neg hC]
    refine fn_intro tt_ok Tryz.func147 rfl Tryz.call147 Tryz.ntmps147 Tryz.results147 rfl rfl rfl rfl ?_
    intro X ρ0 hb_ hgl_
    dsimp only [c_KProtectI]
    try refine nrm ?_
    rw [hV]
    repeat' (refine ar_id ?_; first | refine st1 ?_ | (first | ((first | refine ar_region (id := 1) tt_ok (inps := [.call (c_CountR k k false)]) rfl ?_ ?_ | refine ar_region (id := 2) tt_ok (inps := [.call (c_PageEntryI k.Machine.Table page)]) rfl ?_ ?_ | refine ar_region (id := 3) tt_ok (inps := [.skip (SV.one (.lit (.bool (true))))]) rfl ?_ ?_ | refine ar_region tt_ok (inps := []) rfl ?_ ?_); rotate_left; (try dsimp only [c_CountR, c_PageEntryI]); (try refine nrm ?_); rotate_right) | refine ret3 ?_ | refine end3 ?_) | (refine ar_cond rfl trivial ?_ ?_ <;> intro hc_ <;> (try simp only [isNilI, inB, reduceCtorEq, cds] at hc_) <;> (try (first | contradiction | (exfalso; omega)))) | refine ar_until (And.intro ?_ (wk3 ?_)))
    all_goals (first | refine ar_id ?_ | (try (focus ((try refine nrmO ?_); (repeat' (first | exact True.intro | refine And.intro ?_ ?_)); all_goals (try (intro (hg_ : _ = true); (try simp only [isNilI, inB, reduceCtorEq, cds] at hg_); (repeat' (first | exact True.intro | refine And.intro ?_ ?_)))); all_goals (first | exact ob1 | exact fn_CountR _ _ _ hs hcn | exact fn_PageEntryI _ _ hse | skip)))))
    all_goals (first | rfl | (exfalso; grind))
end Eng
end Go.Proofs.YtlkkiopjknbomaaGreatDoor
namespace Go.Proofs.YtlkkiopjknbomaaGreatDoor
open Go.RowKit
set_option linter.unusedVariables false
set_option linter.unusedSimpArgs false
set_option maxRecDepth 100000
namespace Eng
open Tr
def c_cellEx (x : Int) : CFD := ⟨130, [(SV.one (.lit (.int .i64 (x))))], [], (TV.sv (.one (.lit (.bool (decide (0 ≤ x ∧ x ≤ 15)))))), [], [], []⟩
theorem fn_cellEx (x : Int) : Fn Tryz.prog (c_cellEx x) := by
  refine fn_intro tt_ok Tryz.func130 rfl Tryz.call130 Tryz.ntmps130 Tryz.results130 rfl rfl rfl rfl ?_
  intro X ρ0 hb_ hgl_
  dsimp only [c_cellEx]
  try refine nrm ?_
  repeat' (refine ar_id ?_; first | refine st1 ?_ | (first | ((first | refine ar_region tt_ok (inps := []) rfl ?_ ?_); rotate_left; (try refine nrm ?_); rotate_right) | refine ret3 ?_ | refine end3 ?_) | (refine ar_cond rfl trivial ?_ ?_ <;> intro hc_ <;> (try simp only [isNilI, inB, reduceCtorEq, cds] at hc_) <;> (try (first | contradiction | (exfalso; omega)))) | refine ar_until (And.intro ?_ (wk3 ?_)))
  all_goals (first | refine ar_id ?_ | (try (focus ((try refine nrmO ?_); (repeat' (first | exact True.intro | refine And.intro ?_ ?_)); all_goals (try (intro (hg_ : _ = true); (try simp only [isNilI, inB, reduceCtorEq, cds] at hg_); (repeat' (first | exact True.intro | refine And.intro ?_ ?_)))); all_goals (first | exact ob1 | skip)))))
  exact congrArg Value.bool (by rw [cond_ite, Bool.eq_iff_iff]; split <;> simp_all <;> omega)
def c_cellsEx (l : List Int) : CFD := ⟨167, [.one (ro 3 1 Tr.eI l)], [], (TV.sv (.one (.lit (.bool (decide (∀ c ∈ l, 0 ≤ c ∧ c ≤ 15)))))), [], [], []⟩
theorem fn_cellsEx (l : List Int) (hl : l.length ≤ 1048576) : Fn Tryz.prog (c_cellsEx l) := by
  refine fn_intro tt_ok Tryz.func167 rfl Tryz.call167 Tryz.ntmps167 Tryz.results167 rfl rfl rfl rfl ?_
  intro X ρ0 hb_ hgl_
  dsimp only [c_cellsEx]
  try refine nrm ?_
  repeat' (refine ar_id ?_; first | refine st1 ?_ | (first | ((first | refine ar_region tt_ok (inps := []) rfl ?_ ?_); rotate_left; (try refine nrm ?_); rotate_right) | refine ret3 ?_ | refine end3 ?_) | (refine ar_cond rfl trivial ?_ ?_ <;> intro hc_ <;> (try simp only [isNilI, inB, reduceCtorEq, cds] at hc_) <;> (try (first | contradiction | (exfalso; omega)))) | refine ar_until (And.intro ?_ (wk3 ?_)))
  all_goals (first | refine ar_id ?_ | (try (focus ((try refine nrmO ?_); (repeat' (first | exact True.intro | refine And.intro ?_ ?_)); all_goals (try (intro (hg_ : _ = true); (try simp only [isNilI, inB, reduceCtorEq, cds] at hg_); (repeat' (first | exact True.intro | refine And.intro ?_ ?_)))); all_goals (first | exact ob1 | skip)))))
  refine ar_keep 245 (by dsimp only [keepS] <;> exact rfl) ?_
  refine ar_forM (l.length) (fun i => ∀ c ∈ l.take i, 0 ≤ c ∧ c ≤ 15) (fun i => [(7, (TV.sv (.one (.lit (.int .i64 (i))))))]) (fun i => []) ?_ ?_ ?_
  rotate_left
  · first | trivial | simp
  (dsimp only [rnCap, capSVs, Int.toNat_natCast, ro, Nat.reduceAdd, Nat.reduceMul, Nat.zero_add, List.map, putT, app, wrapG, gOb, argT, keys, slotOf, dropped, gAnd, wB, rnT, rnS, rnC, rnCs, rnSs, rnM, rnB, rnN, rn, lk, St.over, ded, delL, keepT, menT, menSs, menS, menCs, menC, hasN, resT, SV.cells]; refine wk3 ?_; (focus ((try refine nrmO ?_); (repeat' (first | exact True.intro | refine And.intro ?_ ?_)); all_goals (try (intro (hg_ : _ = true); (try simp only [isNilI, inB, reduceCtorEq, cds] at hg_); (repeat' (first | exact True.intro | refine And.intro ?_ ?_)))); all_goals (first | exact ob1 | exact rfl | skip))))
  rotate_right
  intro i hi_ hiI_
  dsimp only [rnCap, capSVs, Int.toNat_natCast, ro, Nat.reduceAdd, Nat.reduceMul, Nat.zero_add, List.map, putT, app, wrapG, gOb, argT, keys, slotOf, dropped, gAnd, wB, rnT, rnS, rnC, rnCs, rnSs, rnM, rnB, rnN, rn, lk, St.over, ded, delL, keepT, menT, menSs, menS, menCs, menC, hasN, resT, SV.cells]
  repeat' (refine ar_id ?_; first | refine st1 ?_ | (first | ((first | refine ar_region (id := 3) tt_ok (inps := [.elem (Tr.eI (l.getD i 0))]) rfl ?_ ?_ | refine ar_region (id := 4) tt_ok (inps := [.call (c_cellEx (l.getD i 0))]) rfl ?_ ?_ | refine ar_region tt_ok (inps := []) rfl ?_ ?_); rotate_left; (try dsimp only [c_cellEx]); (try refine nrm ?_); rotate_right) | refine ret3 ?_ | refine end3 ?_) | (refine ar_cond rfl trivial ?_ ?_ <;> intro hc_ <;> (try simp only [isNilI, inB, reduceCtorEq, cds] at hc_) <;> (try (first | contradiction | (exfalso; omega)))) | refine ar_until (And.intro ?_ (wk3 ?_)))
  all_goals (first | refine ar_id ?_ | (try (focus ((try refine nrmO ?_); (repeat' (first | exact True.intro | refine And.intro ?_ ?_)); all_goals (try (intro (hg_ : _ = true); (try simp only [isNilI, inB, reduceCtorEq, cds] at hg_); (repeat' (first | exact True.intro | refine And.intro ?_ ?_)))); all_goals (first | exact ob1 | exact fn_cellEx _ | skip)))))
  · exact bf fun h => hc_ (h _ (getD_in (by omega)))
  · exact all_take (p := fun c => 0 ≤ c ∧ c ≤ 15) (d := 0) hiI_ (by omega) hc_
  · exact bt (all_full (p := fun c => 0 ≤ c ∧ c ≤ 15) hiI_ (by omega))
/-- some cells of a row copied into another -/
def cpRow (src row : List Int) (l : List Int) : List Int := l.foldl (fun r c => r.set c.toNat (src.getD c.toNat 0)) row
theorem cpRow_snoc (src row l : List Int) (c : Int) : cpRow src row (l ++ [c]) = (cpRow src row l).set c.toNat (src.getD c.toNat 0) := by unfold cpRow; rw [List.foldl_append]; rfl
theorem cpRow_len (src : List Int) : ∀ (l row : List Int), (cpRow src row l).length = row.length
  | [], _ => rfl
  | c :: l, row => (cpRow_len src l _).trans List.length_set
theorem set_same (row : List Int) (n : Nat) : row.set n (row.getD n 0) = row := by
  refine List.ext_getElem? fun j => ?_
  rw [List.getElem?_set]
  split
  · rename_i h
    subst h
    split
    · rename_i h; exact (getD_at h).symm
    · rename_i h; rw [List.getElem?_eq_none (by omega)]
  · rfl
theorem cpRow_self (row : List Int) : ∀ (l : List Int), cpRow row row l = row
  | [] => rfl
  | c :: l => by
    show cpRow row (row.set c.toNat (row.getD c.toNat 0)) l = row
    rw [set_same]; exact cpRow_self row l
theorem copied_snocI (a b : Int) (c : Int) : ∀ (l : List Int) (m : GMachine), copied m a b (l ++ [c]) = setCellOf (copied m a b l) b c (cellOf (copied m a b l) a c)
  | [], m => rfl
  | x :: l, m => copied_snocI a b c l _
theorem list_rev {α : Type} {p : List α → Prop} (h0 : p []) (h1 : ∀ l x, p l → p (l ++ [x])) (l : List α) : p l := by
  have : ∀ n (l : List α), l.length = n → p l := by
    intro n
    induction n with
    | zero => intro l hl; rw [List.length_eq_zero_iff.1 hl]; exact h0
    | succ n ih =>
      intro l hl
      have hne : l ≠ [] := fun e => by rw [e] at hl; cases hl
      rw [← List.dropLast_concat_getLast hne]
      exact h1 _ _ (ih _ (by rw [List.length_dropLast]; omega))
  exact this _ l rfl
theorem copied_row (m : GMachine) (f g : Nat) (hg : g < m.Frames.Cells.length) (l : List Int) : copied m f g l = ⟨⟨m.Frames.Cells.set g (cpRow (m.Frames.Cells.getD f []) (m.Frames.Cells.getD g []) l), m.Frames.Used⟩, m.Table⟩ := by
  induction l using list_rev with
  | h0 =>
    have e : m.Frames.Cells.set g (m.Frames.Cells.getD g []) = m.Frames.Cells := by
      refine List.ext_getElem? fun j => ?_
      rw [List.getElem?_set]
      split
      · rename_i h; subst h; first | exact (getD_at hg).symm | (rw [if_pos hg]; exact (getD_at hg).symm)
      · rfl
    show m = _
    unfold cpRow
    rw [List.foldl_nil, e]
  | h1 l c ih =>
    rw [copied_snocI, ih, cpRow_snoc]
    have e1 : (m.Frames.Cells.set g (cpRow (m.Frames.Cells.getD f []) (m.Frames.Cells.getD g []) l)).getD g [] = cpRow (m.Frames.Cells.getD f []) (m.Frames.Cells.getD g []) l := by
      rw [List.getD_eq_getElem?_getD, List.getElem?_set_self hg]; rfl
    have e2 : ((m.Frames.Cells.set g (cpRow (m.Frames.Cells.getD f []) (m.Frames.Cells.getD g []) l)).getD f []).getD c.toNat 0 = (m.Frames.Cells.getD f []).getD c.toNat 0 := by
      by_cases h : f = g
      · subst h; rw [e1, cpRow_self]
      · have e3 : (m.Frames.Cells.set g (cpRow (m.Frames.Cells.getD f []) (m.Frames.Cells.getD g []) l)).getD f [] = m.Frames.Cells.getD f [] := by
          rw [List.getD_eq_getElem?_getD (l := m.Frames.Cells.set g _), List.getElem?_set_ne (Ne.symm h), ← List.getD_eq_getElem?_getD]
        rw [e3]
    unfold setCellOf cellOf
    simp only [Int.toNat_natCast, e1, e2, List.set_set]
def c_PEntR (t : GTable) (page md fr : Int) : CFD := ⟨98, [.agg [ro 45 2 eEntry t.Entries], (SV.one (.lit (.int .i64 (page))))], [], .sv (.agg [(CV.lit (.int .i64 (md))), (CV.lit (.int .i64 (fr)))]), [], [], []⟩
theorem fn_PEntR (t : GTable) (page md fr : Int) (hl : t.Entries.length ≤ 1048576) (h1 : (pPageEntry t page).Mode = md) (h2 : (pPageEntry t page).Frame = fr) : Fn Tryz.prog (c_PEntR t page md fr) := by
  subst h1 h2; exact fn_PageEntryI t page hl
theorem cp_at {src row l : List Int} {c : Int} (h : 0 ≤ c ∧ c ≤ 15) (hr : row.length = 16) : c.toNat < (cpRow src row l).length := by rw [cpRow_len]; omega
def c_KCopyI (k : GKernel) (a b : Int) (cells : List Int) : CFD := ⟨148, [.agg [ro 33 1 eIntS k.Machine.Frames.Cells, ro 4 1 Tr.eB k.Machine.Frames.Used, ro 45 2 eEntry k.Machine.Table.Entries, (CV.lit (.int .i64 (k.Calls))), ro 3 1 Tr.eI k.Refuse], (SV.one (.lit (.int .i64 (a)))), (SV.one (.lit (.int .i64 (b)))), .one (ro 3 1 Tr.eI cells)], [], .tup [.agg [.hd 0, .hd 1, .hd 2, (CV.lit (.int .i64 (((pKCopy k a b cells).1).Calls))), .hd 3], (SV.one (.lit (.bool ((pKCopy k a b cells).2))))], [(0, some (.row 33 1 (((pKCopy k a b cells).1).Machine.Frames.Cells.map eIntS))), (1, some (.row 4 1 (((pKCopy k a b cells).1).Machine.Frames.Used.map Tr.eB))), (2, some (.row 45 2 (((pKCopy k a b cells).1).Machine.Table.Entries.map eEntry))), (3, some (.row 3 1 (((pKCopy k a b cells).1).Refuse.map Tr.eI)))], [0, 1, 2, 3], []⟩
set_option maxHeartbeats 4000000 in
theorem fn_KCopyI (k : GKernel) (a b : Int) (cells : List Int) (hs : szK k) (hl : cells.length ≤ 1048576) : Fn Tryz.prog (c_KCopyI k a b cells) := by
  have hse := hs.m.e
  by_cases hQ : canCall k ∧ (modeOf k a ≠ 0 ∧ modeOf k b ≠ 0) ∧ (∀ c ∈ cells, 0 ≤ c ∧ c ≤ 15)
  · obtain ⟨hC, ⟨h1, h2⟩, h3⟩ := hQ
    have hok : okM k.Machine := hC.1.1
    obtain ⟨f, hf, hf1, _, hf3, _⟩ := okM_entry hok h1
    obtain ⟨g, hg, hg1, _, hg3, _⟩ := okM_entry hok h2
    unfold modeOf at h1 h2
    have hV : pKCopy k a b cells = (⟨⟨⟨k.Machine.Frames.Cells.set g (cpRow (k.Machine.Frames.Cells.getD f []) (k.Machine.Frames.Cells.getD g []) cells), k.Machine.Frames.Used⟩, k.Machine.Table⟩, k.Calls, k.Refuse⟩, true) := by
      unfold pKCopy pCells modeOf
      rw [if_pos hC, if_pos ⟨⟨h1, h2⟩, h3⟩, hf, hg, copied_row _ _ _ hg1]
    refine fn_intro tt_ok Tryz.func148 rfl Tryz.call148 Tryz.ntmps148 Tryz.results148 rfl rfl rfl rfl ?_
    intro X ρ0 hb_ hgl_
    dsimp only [c_KCopyI]
    try refine nrm ?_
    rw [hV]
    repeat' (refine ar_id ?_; first | refine st1 ?_ | (first | ((first | refine ar_region (id := 1) tt_ok (inps := [.call (c_CopyKI k)]) rfl ?_ ?_ | refine ar_draw (id := 2) (inps := [.call (c_PEntR k.Machine.Table a (pPageEntry k.Machine.Table a).Mode f), .call (c_PEntR k.Machine.Table b (pPageEntry k.Machine.Table b).Mode g)]) tt_ok (by kernel_rfl) rfl rfl (by kernel_rfl) rfl rfl rfl rfl ?_ ?_ | refine ar_region (id := 3) tt_ok (inps := [.call (c_takes k), .call (c_isMapped (pPageEntry k.Machine.Table a).Mode f), .call (c_isMapped (pPageEntry k.Machine.Table b).Mode g), .call (c_cellsEx cells)]) rfl ?_ ?_ | refine ar_region tt_ok (inps := []) rfl ?_ ?_); rotate_left; (try dsimp only [c_CopyKI, c_PEntR, c_cellsEx, c_isMapped, c_takes]); (try refine nrm ?_); rotate_right) | refine ret3 ?_ | refine end3 ?_) | (refine ar_cond rfl trivial ?_ ?_ <;> intro hc_ <;> (try simp only [isNilI, inB, reduceCtorEq, cds] at hc_) <;> (try (first | contradiction | (exfalso; omega)))) | refine ar_until (And.intro ?_ (wk3 ?_)))
    all_goals (first | refine ar_id ?_ | (try (focus ((try refine nrmO ?_); (repeat' (first | exact True.intro | refine And.intro ?_ ?_)); all_goals (try (intro (hg_ : _ = true); (try simp only [isNilI, inB, reduceCtorEq, cds] at hg_); (repeat' (first | exact True.intro | refine And.intro ?_ ?_)))); all_goals (first | exact ob1 | exact fn_CopyKI _ hs | exact fn_takes _ hs | exact fn_PEntR _ _ _ _ hse rfl hf | exact fn_PEntR _ _ _ _ hse rfl hg | exact fn_isMapped _ _ | exact fn_cellsEx _ hl | skip)))))
    · exfalso; grind
    · exfalso; grind
    refine ar_keep 492581209267999 (by dsimp only [keepS] <;> exact rfl) ?_
    refine ar_forM (cells.length) (fun i => True) (fun i => [(48, (TV.sv (.one (.lit (.int .i64 (i))))))]) (fun i => [(17000, some (.row 33 1 ((k.Machine.Frames.Cells.map eIntS).set g (eIntS (cpRow (k.Machine.Frames.Cells.getD f []) (k.Machine.Frames.Cells.getD g []) (cells.take i))))))]) ?_ ?_ ?_
    rotate_left
    · first | trivial | simp
    (dsimp only [rnCap, capSVs, Int.toNat_natCast, ro, Nat.reduceAdd, Nat.reduceMul, Nat.zero_add, List.map, putT, app, wrapG, gOb, argT, keys, slotOf, dropped, gAnd, wB, rnT, rnS, rnC, rnCs, rnSs, rnM, rnB, rnN, rn, lk, St.over, ded, delL, keepT, menT, menSs, menS, menCs, menC, hasN, resT, SV.cells]; refine wk3 ?_; (focus ((try refine nrmO ?_); (repeat' (first | exact True.intro | refine And.intro ?_ ?_)); all_goals (try (intro (hg_ : _ = true); (try simp only [isNilI, inB, reduceCtorEq, cds] at hg_); (repeat' (first | exact True.intro | refine And.intro ?_ ?_)))); all_goals (first | exact ob1 | exact rfl | skip))))
    rotate_right
    intro i hi_ hiI_
    dsimp only [rnCap, capSVs, Int.toNat_natCast, ro, Nat.reduceAdd, Nat.reduceMul, Nat.zero_add, List.map, putT, app, wrapG, gOb, argT, keys, slotOf, dropped, gAnd, wB, rnT, rnS, rnC, rnCs, rnSs, rnM, rnB, rnN, rn, lk, St.over, ded, delL, keepT, menT, menSs, menS, menCs, menC, hasN, resT, SV.cells]
    repeat' (refine ar_id ?_; first | refine st1 ?_ | (first | ((first | refine ar_region (id := 7) tt_ok (inps := [.elem (Tr.eI (cells.getD i 0))]) rfl ?_ ?_ | refine ar_region tt_ok (inps := []) rfl ?_ ?_); rotate_left; (try refine nrm ?_); rotate_right) | refine ret3 ?_ | refine end3 ?_) | (refine ar_cond rfl trivial ?_ ?_ <;> intro hc_ <;> (try simp only [isNilI, inB, reduceCtorEq, cds] at hc_) <;> (try (first | contradiction | (exfalso; omega)))) | refine ar_until (And.intro ?_ (wk3 ?_)))
    all_goals (first | refine ar_id ?_ | (try (focus ((try refine nrmO ?_); (repeat' (first | exact True.intro | refine And.intro ?_ ?_)); all_goals (try (intro (hg_ : _ = true); (try simp only [isNilI, inB, reduceCtorEq, cds] at hg_); (repeat' (first | exact True.intro | refine And.intro ?_ ?_)))); all_goals (first | exact ob1 | skip)))))
    · have hc := h3 _ (getD_in (l := cells) (i := i) (d := 0) (by omega))
      have hcl := cp_at (src := k.Machine.Frames.Cells.getD f []) (l := cells.take i) hc hg3
      refine ar_open 17000 g 0 90001 90002 (d := eIntS (cpRow (k.Machine.Frames.Cells.getD f []) (k.Machine.Frames.Cells.getD g []) (cells.take i))) ((cpRow (k.Machine.Frames.Cells.getD f []) (k.Machine.Frames.Cells.getD g []) (cells.take i)).map eI) rfl ?_ rfl ?_ rfl rfl rfl ?_
      · first | exact map_at (by omega) | assumption | exact set_at (by (try simp only [List.length_map, List.length_set]); omega) | (rw [List.getElem?_set_ne (by omega)]; exact map_at (by omega))
      · exact ⟨rfl, rfl, by intro e he; simp only [List.mem_map] at he; obtain ⟨_, _, rfl⟩ := he; rfl⟩
      intro A_90001 n_90001 c_90001
      try refine nrm ?_
      refine ar_draw (id := 8) (inps := [ .nest (.lit (Value.slice A_90001 n_90001 c_90001) .nil) [(0, 90002)], .elem (eIntS (k.Machine.Frames.Cells.getD f [])), .elem (eI ((k.Machine.Frames.Cells.getD f []).getD (cells.getD i 0).toNat 0)), .elem (eI ((cpRow (k.Machine.Frames.Cells.getD f []) (k.Machine.Frames.Cells.getD g []) (cells.take i)).getD (cells.getD i 0).toNat 0))]) tt_ok (by kernel_rfl) rfl rfl (by kernel_rfl) rfl rfl rfl rfl ?_ ?_
      rotate_left
      (try refine nrm ?_)
      refine ar_close 17000 g 0 90001 90002 rfl rfl rfl (set_at ?_) rfl rfl rfl ?_
      · (simp only [List.length_map, List.length_set]; omega)
      try refine nrm ?_
      repeat' (refine ar_id ?_; first | refine st1 ?_ | (first | ((first | refine ar_region tt_ok (inps := []) rfl ?_ ?_); rotate_left; (try refine nrm ?_); rotate_right) | refine ret3 ?_ | refine end3 ?_) | (refine ar_cond rfl trivial ?_ ?_ <;> intro hc_ <;> (try simp only [isNilI, inB, reduceCtorEq, cds] at hc_) <;> (try (first | contradiction | (exfalso; omega)))) | refine ar_until (And.intro ?_ (wk3 ?_)))
      all_goals (first | refine ar_id ?_ | (try (focus ((try refine nrmO ?_); (repeat' (first | exact True.intro | refine And.intro ?_ ?_)); all_goals (try (intro (hg_ : _ = true); (try simp only [isNilI, inB, reduceCtorEq, cds] at hg_); (repeat' (first | exact True.intro | refine And.intro ?_ ?_)))); all_goals (first | exact ob1 | skip)))))
      all_goals (try (focus ((try refine nrmO ?_); (repeat' (first | exact True.intro | refine And.intro ?_ ?_)); all_goals (try (intro (hg_ : _ = true); (try simp only [isNilI, inB, reduceCtorEq, cds] at hg_); (repeat' (first | exact True.intro | refine And.intro ?_ ?_)))); all_goals (first | exact ob1 | skip))))
      have hset : ∀ (R : List Int) (n : Nat) (o v : Int), (R.map eI).set n (dPut (eI o) 0 (D.lit (.int .i64 v) .nil)) = (R.set n v).map eI := fun R n o v => List.map_set.symm
      rw [hset, List.set_set, List.set_set, take_getD cells 0 (by omega), cpRow_snoc]
      rfl
    · rw [List.take_of_length_le (by omega)]; exact List.map_set.symm
    · rw [List.take_zero]
      show k.Machine.Frames.Cells.map eIntS = (k.Machine.Frames.Cells.map eIntS).set g (eIntS (k.Machine.Frames.Cells.getD g []))
      rw [← List.map_set]
      congr 1
      refine List.ext_getElem? fun j => ?_
      rw [List.getElem?_set]
      split
      · rename_i h; subst h; first | exact getD_at hg1 | (rw [if_pos hg1]; exact getD_at hg1)
      · rfl
  · have hV : pKCopy k a b cells = (k, false) := by
      unfold pKCopy pCells
      by_cases hC : canCall k
      · rw [if_pos hC, if_neg (fun h => hQ ⟨hC, h⟩)]
      · rw [if_neg hC]
    unfold modeOf at hQ
    refine fn_intro tt_ok Tryz.func148 rfl Tryz.call148 Tryz.ntmps148 Tryz.results148 rfl rfl rfl rfl ?_
    intro X ρ0 hb_ hgl_
    dsimp only [c_KCopyI]
    try refine nrm ?_
    rw [hV]
    repeat' (refine ar_id ?_; first | refine st1 ?_ | (first | ((first | refine ar_region (id := 1) tt_ok (inps := [.call (c_CopyKI k)]) rfl ?_ ?_ | refine ar_draw (id := 2) (inps := [.call (c_PageEntryI k.Machine.Table a), .call (c_PageEntryI k.Machine.Table b)]) tt_ok (by kernel_rfl) rfl rfl (by kernel_rfl) rfl rfl rfl rfl ?_ ?_ | refine ar_region (id := 3) tt_ok (inps := [.call (c_takes k), .call (c_isMapped (pPageEntry k.Machine.Table a).Mode (pPageEntry k.Machine.Table a).Frame), .call (c_isMapped (pPageEntry k.Machine.Table b).Mode (pPageEntry k.Machine.Table b).Frame), .call (c_cellsEx cells)]) rfl ?_ ?_ | refine ar_region tt_ok (inps := []) rfl ?_ ?_); rotate_left; (try dsimp only [c_CopyKI, c_PageEntryI, c_cellsEx, c_isMapped, c_takes]); (try refine nrm ?_); rotate_right) | refine ret3 ?_ | refine end3 ?_) | (refine ar_cond rfl trivial ?_ ?_ <;> intro hc_ <;> (try simp only [isNilI, inB, reduceCtorEq, cds] at hc_) <;> (try (first | contradiction | (exfalso; omega)))) | refine ar_until (And.intro ?_ (wk3 ?_)))
    all_goals (first | refine ar_id ?_ | (try (focus ((try refine nrmO ?_); (repeat' (first | exact True.intro | refine And.intro ?_ ?_)); all_goals (try (intro (hg_ : _ = true); (try simp only [isNilI, inB, reduceCtorEq, cds] at hg_); (repeat' (first | exact True.intro | refine And.intro ?_ ?_)))); all_goals (first | exact ob1 | exact fn_CopyKI _ hs | exact fn_takes _ hs | exact fn_PageEntryI _ _ hse | exact fn_isMapped _ _ | exact fn_cellsEx _ hl | skip)))))
    all_goals (first | rfl | (exfalso; grind))
end Eng
end Go.Proofs.YtlkkiopjknbomaaGreatDoor
namespace Go.Proofs.YtlkkiopjknbomaaGreatDoor
open Go.RowKit
set_option linter.unusedVariables false
set_option linter.unusedSimpArgs false
set_option maxRecDepth 100000
namespace Eng
open Tr
theorem szM_from {m : GMachine} (h : szM7 m) : szM m := ⟨h.c, h.u, h.r, h.e⟩
theorem szK_from {k : GKernel} (h : szK8 k) : szK k := ⟨szM_from h.m, h.r⟩
def c_KProR (k : GKernel) (page mode : Int) (k' : GKernel) (b : Bool) : CFD := ⟨147, [.agg [ro 33 1 eIntS k.Machine.Frames.Cells, ro 4 1 Tr.eB k.Machine.Frames.Used, ro 45 2 eEntry k.Machine.Table.Entries, (CV.lit (.int .i64 (k.Calls))), ro 3 1 Tr.eI k.Refuse], (SV.one (.lit (.int .i64 (page)))), (SV.one (.lit (.int .i64 (mode))))], [], .tup [.agg [.hd 0, .hd 1, .hd 2, (CV.lit (.int .i64 ((k').Calls))), .hd 3], (SV.one (.lit (.bool (b))))], [(0, some (.row 33 1 ((k').Machine.Frames.Cells.map eIntS))), (1, some (.row 4 1 ((k').Machine.Frames.Used.map Tr.eB))), (2, some (.row 45 2 ((k').Machine.Table.Entries.map eEntry))), (3, some (.row 3 1 ((k').Refuse.map Tr.eI)))], [0, 1, 2, 3], []⟩
theorem fn_KProR (k : GKernel) (page mode : Int) (k' : GKernel) (b : Bool) (hs : szK8 k) (hc : canCall k) (h : pProtect k page mode = (k', b)) : Fn Tryz.prog (c_KProR k page mode k' b) := by
  have := fn_KProtectI k page mode (szK_from hs)
  unfold c_KProtectI pKProtect at this
  rw [if_pos hc, h] at this
  exact this
def c_KOnR (k : GKernel) (page other : Int) (k' : GKernel) (b : Bool) : CFD := ⟨149, [.agg [ro 33 1 eIntS k.Machine.Frames.Cells, ro 4 1 Tr.eB k.Machine.Frames.Used, ro 45 2 eEntry k.Machine.Table.Entries, (CV.lit (.int .i64 (k.Calls))), ro 3 1 Tr.eI k.Refuse], (SV.one (.lit (.int .i64 (page)))), (SV.one (.lit (.int .i64 (other))))], [], .tup [.agg [.hd 0, .hd 1, .hd 2, (CV.lit (.int .i64 ((k').Calls))), .hd 3], (SV.one (.lit (.bool (b))))], [(0, some (.row 33 1 ((k').Machine.Frames.Cells.map eIntS))), (1, some (.row 4 1 ((k').Machine.Frames.Used.map Tr.eB))), (2, some (.row 45 2 ((k').Machine.Table.Entries.map eEntry))), (3, some (.row 3 1 ((k').Refuse.map Tr.eI)))], [0, 1, 2, 3], []⟩
theorem fn_KOnR (k : GKernel) (page other : Int) (k' : GKernel) (b : Bool) (hs : szK8 k) (hc : canCall k) (h : pOn k page other = (k', b)) : Fn Tryz.prog (c_KOnR k page other k' b) := by
  have := fn_KMapOnI k page other (szK_from hs)
  unfold c_KMapOnI pKMapOn at this
  rw [if_pos hc, h] at this
  exact this
def c_KCopR (k : GKernel) (a b : Int) (cells : List Int) (k' : GKernel) (r : Bool) : CFD := ⟨148, [.agg [ro 33 1 eIntS k.Machine.Frames.Cells, ro 4 1 Tr.eB k.Machine.Frames.Used, ro 45 2 eEntry k.Machine.Table.Entries, (CV.lit (.int .i64 (k.Calls))), ro 3 1 Tr.eI k.Refuse], (SV.one (.lit (.int .i64 (a)))), (SV.one (.lit (.int .i64 (b)))), .one (ro 3 1 Tr.eI cells)], [], .tup [.agg [.hd 0, .hd 1, .hd 2, (CV.lit (.int .i64 ((k').Calls))), .hd 3], (SV.one (.lit (.bool (r))))], [(0, some (.row 33 1 ((k').Machine.Frames.Cells.map eIntS))), (1, some (.row 4 1 ((k').Machine.Frames.Used.map Tr.eB))), (2, some (.row 45 2 ((k').Machine.Table.Entries.map eEntry))), (3, some (.row 3 1 ((k').Refuse.map Tr.eI)))], [0, 1, 2, 3], []⟩
theorem fn_KCopR (k : GKernel) (a b : Int) (cells : List Int) (k' : GKernel) (r : Bool) (hs : szK8 k) (hl : cells.length ≤ 1048576) (hc : canCall k) (h : pCells k a b cells = (k', r)) : Fn Tryz.prog (c_KCopR k a b cells k' r) := by
  have := fn_KCopyI k a b cells (szK_from hs) hl
  unfold c_KCopyI pKCopy at this
  rw [if_pos hc, h] at this
  exact this
def c_StoR (s : Se) (m : GMachine) (addr v : Int) (m' : GMachine) (x : Int) : CFD := ⟨150, [.agg [ro 33 1 eIntS m.Frames.Cells, ro 4 1 Tr.eB m.Frames.Used, ro 45 2 eEntry m.Table.Entries], (SV.one (.lit (.int .i64 (addr)))), (SV.one (.lit (.int .i64 (v))))], [], .tup [.agg [.hd 0, .hd 1, .hd 2], (SV.one (.lit (.int .i64 (x))))], [(0, some (.row 33 1 ((m').Frames.Cells.map eIntS))), (1, some (.row 4 1 ((m').Frames.Used.map Tr.eB))), (2, some (.row 45 2 ((m').Table.Entries.map eEntry)))], [0, 1, 2], s.gl⟩
theorem fn_StoR (s : Se) (m : GMachine) (addr v : Int) (m' : GMachine) (x : Int) (hs : szM7 m) (ha : okI addr) (h : pStore m addr v = (m', x)) : Fn Tryz.prog (c_StoR s m addr v m' x) := by
  have := fn_StoreI s m addr v (szM_from hs) ha
  unfold c_StoreI at this
  rw [h] at this
  exact this
def c_can (k : GKernel) (j : GJob) : CFD := ⟨69, [.agg [ro 33 1 eIntS k.Machine.Frames.Cells, ro 4 1 Tr.eB k.Machine.Frames.Used, ro 45 2 eEntry k.Machine.Table.Entries, (CV.lit (.int .i64 (k.Calls))), ro 3 1 Tr.eI k.Refuse], .agg [(CV.lit (.int .i64 (j.Plan.Keep))), (CV.lit (.int .i64 (j.Plan.Move))), ro 3 1 Tr.eI j.Plan.Cells, (CV.lit (.int .i64 (j.Phase))), (CV.lit (.int .i64 (j.Next)))]], [], (TV.sv (.one (.lit (.bool (decide (mayJ k j)))))), [], [], []⟩
theorem fn_can (k : GKernel) (j : GJob) (hs : szK8 k) (hl : j.Plan.Cells.length ≤ 1048576) : Fn Tryz.prog (c_can k j) := by
  have hF := hs.m.e
  refine fn_intro tt_ok Tryz.func69 rfl Tryz.call69 Tryz.ntmps69 Tryz.results69 rfl rfl rfl rfl ?_
  intro X ρ0 hb_ hgl_
  dsimp only [c_can]
  try refine nrm ?_
  repeat' (refine ar_id ?_; first | refine st1 ?_ | (refine ar_drawS (id := 1) tt_ok (by kernel_rfl) [.call (c_PageEntryI k.Machine.Table j.Plan.Keep), .call (c_PageEntryI k.Machine.Table j.Plan.Move)] ?_; refine ed_hide ?_; intro K_ hK_; repeat' (first | ((first | refine ed_call3 ?_ | refine ed_sure3 ?_ | refine ed_cons3 ?_); refine ed_hide ?_; intro K_ hK_; (try dsimp only [c_JobOkI, c_PageEntryI, c_isMapped, c_takes]); (try refine nrmE ?_)) | (refine ed_nil ?_; (repeat subst hK_); dsimp only; refine Exists.intro _ (And.intro rfl (And.intro (by kernel_rfl) (And.intro ?_ ?_))); rotate_left; (try dsimp only [c_JobOkI, c_PageEntryI, c_isMapped, c_takes]); (try refine nrm ?_); rotate_right))) | (first | ((first | refine ar_region (id := 2) tt_ok (inps := [.call (c_takes k), .call (c_JobOkI j), .call (c_isMapped (pPageEntry k.Machine.Table j.Plan.Keep).Mode (pPageEntry k.Machine.Table j.Plan.Keep).Frame), .call (c_isMapped (pPageEntry k.Machine.Table j.Plan.Move).Mode (pPageEntry k.Machine.Table j.Plan.Move).Frame)]) rfl ?_ ?_ | refine ar_region tt_ok (inps := []) rfl ?_ ?_); rotate_left; (try dsimp only [c_JobOkI, c_PageEntryI, c_isMapped, c_takes]); (try refine nrm ?_); rotate_right) | refine ret3 ?_ | refine end3 ?_) | (refine ar_cond rfl trivial ?_ ?_ <;> intro hc_ <;> (try simp only [isNilI, inB, reduceCtorEq, cds] at hc_) <;> (try (first | contradiction | (exfalso; omega)))) | refine ar_until (And.intro ?_ (wk3 ?_)))
  all_goals (first | refine ar_id ?_ | (try (focus ((try refine nrmO ?_); (repeat' (first | exact True.intro | refine And.intro ?_ ?_)); all_goals (try (intro (hg_ : _ = true); (try simp only [isNilI, inB, reduceCtorEq, cds] at hg_); (repeat' (first | exact True.intro | refine And.intro ?_ ?_)))); all_goals (first | exact ob1 | exact fn_PageEntryI _ _ hF | exact fn_takes k (szK_from hs) | exact fn_JobOkI j hl | exact fn_isMapped _ _ | skip)))))
  refine congrArg Value.bool ?_
  rw [Bool.eq_iff_iff, decide_eq_true_iff]
  simp only [Bool.cond_false_right, Bool.and_eq_true, decide_eq_true_eq, bne_iff_ne, pJobOk]
  exact ⟨fun h => ⟨h.1.1.1.1, h.1.1.1.2, h.1.1.2, h.1.2, h.2⟩, fun h => ⟨⟨⟨⟨h.1, h.2.1⟩, h.2.2.1⟩, h.2.2.2.1⟩, h.2.2.2.2⟩⟩
def c_phases : CFD := ⟨70, [], [], .sv (.agg [.lit (.func (.func 115) #[] #[]), .lit (.func (.func 116) #[] #[]), .lit (.func (.func 117) #[] #[]), .lit (.func (.func 118) #[] #[]), .lit (.func (.func 119) #[] #[]), .lit (.func (.func 119) #[] #[])]), [], [], []⟩
theorem fn_phases : Fn Tryz.prog c_phases := by
  refine fn_intro tt_ok Tryz.func70 rfl Tryz.call70 Tryz.ntmps70 Tryz.results70 rfl rfl rfl rfl ?_
  intro X ρ0 hb_ hgl_
  dsimp only [c_phases]
  try refine nrm ?_
  repeat' (refine ar_id ?_; first | refine st1 ?_ | (first | ((first | refine ar_region tt_ok (inps := []) rfl ?_ ?_); rotate_left; (try refine nrm ?_); rotate_right) | refine ret3 ?_ | refine end3 ?_) | (refine ar_cond rfl trivial ?_ ?_ <;> intro hc_ <;> (try simp only [isNilI, inB, reduceCtorEq, cds] at hc_) <;> (try (first | contradiction | (exfalso; omega)))) | refine ar_until (And.intro ?_ (wk3 ?_)))
  all_goals (first | refine ar_id ?_ | (try (focus ((try refine nrmO ?_); (repeat' (first | exact True.intro | refine And.intro ?_ ?_)); all_goals (try (intro (hg_ : _ = true); (try simp only [isNilI, inB, reduceCtorEq, cds] at hg_); (repeat' (first | exact True.intro | refine And.intro ?_ ?_)))); all_goals (first | exact ob1 | skip)))))
  all_goals trace_state
def c_protM (k : GKernel) (j : GJob) (k' : GKernel) (j' : GJob) : CFD := ⟨115, [.agg [.hd 901, .hd 902, .hd 903, (CV.lit (.int .i64 (k.Calls))), .hd 904], .agg [(CV.lit (.int .i64 (j.Plan.Keep))), (CV.lit (.int .i64 (j.Plan.Move))), .hd 906, (CV.lit (.int .i64 (j.Phase))), (CV.lit (.int .i64 (j.Next)))]], [(901, some (.row 33 1 (k.Machine.Frames.Cells.map eIntS))), (902, some (.row 4 1 (k.Machine.Frames.Used.map Tr.eB))), (903, some (.row 45 2 (k.Machine.Table.Entries.map eEntry))), (904, some (.row 3 1 (k.Refuse.map Tr.eI))), (906, some (.row 3 1 (j.Plan.Cells.map Tr.eI)))], .tup [.agg [.hd 911, .hd 912, .hd 913, (CV.lit (.int .i64 ((k').Calls))), .hd 914], .agg [(CV.lit (.int .i64 ((j').Plan.Keep))), (CV.lit (.int .i64 ((j').Plan.Move))), .hd 906, (CV.lit (.int .i64 ((j').Phase))), (CV.lit (.int .i64 ((j').Next)))]], [(911, some (.row 33 1 ((k').Machine.Frames.Cells.map eIntS))), (912, some (.row 4 1 ((k').Machine.Frames.Used.map Tr.eB))), (913, some (.row 45 2 ((k').Machine.Table.Entries.map eEntry))), (914, some (.row 3 1 ((k').Refuse.map Tr.eI))), (906, some (.row 3 1 ((j').Plan.Cells.map Tr.eI)))], [911, 912, 913, 914], []⟩
theorem fn_protM (k : GKernel) (j : GJob) (k' : GKernel) (j' : GJob) (hs : szK8 k) (hc : canCall k) (h : ((pProtect k j.Plan.Move 1).1, (⟨j.Plan, if (pProtect k j.Plan.Move 1).2 = true then 1 else 5, j.Next⟩ : GJob)) = (k', j')) : Fn Tryz.prog (c_protM k j k' j') := by
  obtain ⟨r, hr⟩ : ∃ r, pProtect k j.Plan.Move 1 = r := ⟨_, rfl⟩
  obtain ⟨k1, b⟩ := r
  rw [hr] at h
  obtain ⟨rfl, rfl⟩ := Prod.mk.inj h
  cases b with
  | true =>
    refine fn_intro tt_ok Tryz.func115 rfl Tryz.call115 Tryz.ntmps115 Tryz.results115 rfl rfl rfl rfl ?_
    intro X ρ0 hb_ hgl_
    dsimp only [c_protM]
    try refine nrm ?_
    repeat' (refine ar_id ?_; first | refine st1 ?_ | (refine ar_drawS (id := 5) tt_ok (by kernel_rfl) [] ?_; refine ed_hide ?_; intro K_ hK_; repeat' (first | ((first | refine ed_call3 ?_ | refine ed_sure3 ?_ | refine ed_cons3 ?_); refine ed_hide ?_; intro K_ hK_; (try dsimp only [c_KProR]); (try refine nrmE ?_)) | (refine ed_nil ?_; (repeat subst hK_); dsimp only; refine Exists.intro _ (And.intro rfl (And.intro (by kernel_rfl) (And.intro ?_ ?_))); rotate_left; (try dsimp only [c_KProR]); (try refine nrm ?_); rotate_right))) | (first | ((first | refine ar_region (id := 1) tt_ok (inps := [.call (c_KProR k j.Plan.Move 1 k1 true)]) rfl ?_ ?_ | refine ar_region tt_ok (inps := []) rfl ?_ ?_); rotate_left; (try dsimp only [c_KProR]); (try refine nrm ?_); rotate_right) | refine ret3 ?_ | refine end3 ?_) | (refine ar_cond rfl trivial ?_ ?_ <;> intro hc_ <;> (try simp only [isNilI, inB, reduceCtorEq, cds] at hc_) <;> (try (first | contradiction | (exfalso; omega)))) | refine ar_until (And.intro ?_ (wk3 ?_)))
    all_goals (first | refine ar_id ?_ | (try (focus ((try refine nrmO ?_); (repeat' (first | exact True.intro | refine And.intro ?_ ?_)); all_goals (try (intro (hg_ : _ = true); (try simp only [isNilI, inB, reduceCtorEq, cds] at hg_); (repeat' (first | exact True.intro | refine And.intro ?_ ?_)))); all_goals (first | exact ob1 | exact fn_KProR _ _ _ _ _ hs hc hr | skip)))))
    all_goals first | rfl | trace_state
  | false =>
    refine fn_intro tt_ok Tryz.func115 rfl Tryz.call115 Tryz.ntmps115 Tryz.results115 rfl rfl rfl rfl ?_
    intro X ρ0 hb_ hgl_
    dsimp only [c_protM]
    try refine nrm ?_
    repeat' (refine ar_id ?_; first | refine st1 ?_ | (refine ar_drawS (id := 5) tt_ok (by kernel_rfl) [] ?_; refine ed_hide ?_; intro K_ hK_; repeat' (first | ((first | refine ed_call3 ?_ | refine ed_sure3 ?_ | refine ed_cons3 ?_); refine ed_hide ?_; intro K_ hK_; (try dsimp only [c_KProR]); (try refine nrmE ?_)) | (refine ed_nil ?_; (repeat subst hK_); dsimp only; refine Exists.intro _ (And.intro rfl (And.intro (by kernel_rfl) (And.intro ?_ ?_))); rotate_left; (try dsimp only [c_KProR]); (try refine nrm ?_); rotate_right))) | (first | ((first | refine ar_region (id := 1) tt_ok (inps := [.call (c_KProR k j.Plan.Move 1 k1 false)]) rfl ?_ ?_ | refine ar_region tt_ok (inps := []) rfl ?_ ?_); rotate_left; (try dsimp only [c_KProR]); (try refine nrm ?_); rotate_right) | refine ret3 ?_ | refine end3 ?_) | (refine ar_cond rfl trivial ?_ ?_ <;> intro hc_ <;> (try simp only [isNilI, inB, reduceCtorEq, cds] at hc_) <;> (try (first | contradiction | (exfalso; omega)))) | refine ar_until (And.intro ?_ (wk3 ?_)))
    all_goals (first | refine ar_id ?_ | (try (focus ((try refine nrmO ?_); (repeat' (first | exact True.intro | refine And.intro ?_ ?_)); all_goals (try (intro (hg_ : _ = true); (try simp only [isNilI, inB, reduceCtorEq, cds] at hg_); (repeat' (first | exact True.intro | refine And.intro ?_ ?_)))); all_goals (first | exact ob1 | exact fn_KProR _ _ _ _ _ hs hc hr | skip)))))
    all_goals first | rfl | trace_state
def c_copyE (k : GKernel) (j : GJob) (j' : GJob) : CFD := ⟨116, [.agg [.hd 901, .hd 902, .hd 903, (CV.lit (.int .i64 (k.Calls))), .hd 904], .agg [(CV.lit (.int .i64 (j.Plan.Keep))), (CV.lit (.int .i64 (j.Plan.Move))), .hd 906, (CV.lit (.int .i64 (j.Phase))), (CV.lit (.int .i64 (j.Next)))]], [(901, some (.row 33 1 (k.Machine.Frames.Cells.map eIntS))), (902, some (.row 4 1 (k.Machine.Frames.Used.map Tr.eB))), (903, some (.row 45 2 (k.Machine.Table.Entries.map eEntry))), (904, some (.row 3 1 (k.Refuse.map Tr.eI))), (906, some (.row 3 1 (j.Plan.Cells.map Tr.eI)))], .tup [.agg [.hd 901, .hd 902, .hd 903, (CV.lit (.int .i64 (k.Calls))), .hd 904], .agg [(CV.lit (.int .i64 ((j').Plan.Keep))), (CV.lit (.int .i64 ((j').Plan.Move))), .hd 906, (CV.lit (.int .i64 ((j').Phase))), (CV.lit (.int .i64 ((j').Next)))]], [(901, some (.row 33 1 (k.Machine.Frames.Cells.map eIntS))), (902, some (.row 4 1 (k.Machine.Frames.Used.map Tr.eB))), (903, some (.row 45 2 (k.Machine.Table.Entries.map eEntry))), (904, some (.row 3 1 (k.Refuse.map Tr.eI))), (906, some (.row 3 1 ((j').Plan.Cells.map Tr.eI)))], [], []⟩
theorem fn_copyE (k : GKernel) (j : GJob) (hn : j.Next = (j.Plan.Cells.length : Int)) : Fn Tryz.prog (c_copyE k j ⟨j.Plan, 2, j.Next⟩) := by
  refine fn_intro tt_ok Tryz.func116 rfl Tryz.call116 Tryz.ntmps116 Tryz.results116 rfl rfl rfl rfl ?_
  intro X ρ0 hb_ hgl_
  dsimp only [c_copyE]
  try refine nrm ?_
  repeat' (refine ar_id ?_; first | refine st1 ?_ | (refine ar_drawS (id := 3) tt_ok (by kernel_rfl) [] ?_; refine ed_hide ?_; intro K_ hK_; repeat' (first | ((first | refine ed_call3 ?_ | refine ed_sure3 ?_ | refine ed_cons3 ?_); refine ed_hide ?_; intro K_ hK_; (try refine nrmE ?_)) | (refine ed_nil ?_; (repeat subst hK_); dsimp only; refine Exists.intro _ (And.intro rfl (And.intro (by kernel_rfl) (And.intro ?_ ?_))); rotate_left; (try refine nrm ?_); rotate_right))) | (first | ((first | refine ar_region tt_ok (inps := []) rfl ?_ ?_); rotate_left; (try refine nrm ?_); rotate_right) | refine ret3 ?_ | refine end3 ?_) | (refine ar_cond rfl trivial ?_ ?_ <;> intro hc_ <;> (try simp only [isNilI, inB, reduceCtorEq, cds] at hc_) <;> (try (first | contradiction | (exfalso; omega) | (exfalso; (rw [List.length_map] at hc_; omega))))) | refine ar_until (And.intro ?_ (wk3 ?_)))
  all_goals (first | refine ar_id ?_ | (try (focus ((try refine nrmO ?_); (repeat' (first | exact True.intro | refine And.intro ?_ ?_)); all_goals (try (intro (hg_ : _ = true); (try simp only [isNilI, inB, reduceCtorEq, cds] at hg_); (repeat' (first | exact True.intro | refine And.intro ?_ ?_)))); all_goals (first | exact ob1 | exact rfl | skip)))))
  all_goals first | rfl | trace_state
def c_copyN (k : GKernel) (j : GJob) (k' : GKernel) (j' : GJob) : CFD := ⟨116, [.agg [.hd 901, .hd 902, .hd 903, (CV.lit (.int .i64 (k.Calls))), .hd 904], .agg [(CV.lit (.int .i64 (j.Plan.Keep))), (CV.lit (.int .i64 (j.Plan.Move))), .hd 906, (CV.lit (.int .i64 (j.Phase))), (CV.lit (.int .i64 (j.Next)))]], [(901, some (.row 33 1 (k.Machine.Frames.Cells.map eIntS))), (902, some (.row 4 1 (k.Machine.Frames.Used.map Tr.eB))), (903, some (.row 45 2 (k.Machine.Table.Entries.map eEntry))), (904, some (.row 3 1 (k.Refuse.map Tr.eI))), (906, some (.row 3 1 (j.Plan.Cells.map Tr.eI)))], .tup [.agg [.hd 911, .hd 912, .hd 913, (CV.lit (.int .i64 ((k').Calls))), .hd 914], .agg [(CV.lit (.int .i64 ((j').Plan.Keep))), (CV.lit (.int .i64 ((j').Plan.Move))), .hd 906, (CV.lit (.int .i64 ((j').Phase))), (CV.lit (.int .i64 ((j').Next)))]], [(911, some (.row 33 1 ((k').Machine.Frames.Cells.map eIntS))), (912, some (.row 4 1 ((k').Machine.Frames.Used.map Tr.eB))), (913, some (.row 45 2 ((k').Machine.Table.Entries.map eEntry))), (914, some (.row 3 1 ((k').Refuse.map Tr.eI))), (906, some (.row 3 1 ((j').Plan.Cells.map Tr.eI)))], [911, 912, 913, 914], []⟩
theorem take_oneI {l : List Int} {n : Int} (h0 : 0 ≤ n) (h : n < (l.length : Int)) : ((l.map Tr.eI).take (n + 1).toNat).drop n.toNat = [l.getD n.toNat 0].map Tr.eI := by
  obtain ⟨i, rfl⟩ := Int.eq_ofNat_of_zero_le h0
  rw [show ((i : Int) + 1).toNat = i + 1 by omega, Int.toNat_natCast, ← List.map_take, take_getD l 0 (by omega), List.map_append, List.drop_append_of_le_length (by rw [List.length_map, List.length_take]; omega), List.drop_of_length_le (by rw [List.length_map, List.length_take]; omega)]
  rfl
theorem fn_copyN (k : GKernel) (j : GJob) (k1 : GKernel) (b : Bool) (hs : szK8 k) (hc : canCall k) (h0 : 0 ≤ j.Next) (hn : j.Next < (j.Plan.Cells.length : Int)) (hl : j.Plan.Cells.length ≤ 1048576) (hr : pCells k j.Plan.Move j.Plan.Keep [cellJ j j.Next] = (k1, b)) : Fn Tryz.prog (c_copyN k j k1 ⟨j.Plan, j.Phase, j.Next + 1⟩) := by
  have ht := take_oneI h0 hn
  rw [show (j.Next + 1).toNat = j.Next.toNat + ((j.Next + 1).toNat - j.Next.toNat) by omega] at ht
  have ht2 := congrArg D.cat ht
  have hF := fn_KCopR k j.Plan.Move j.Plan.Keep [cellJ j j.Next] k1 b hs (by show 1 ≤ 1048576; decide) hc hr
  refine fn_intro tt_ok Tryz.func116 rfl Tryz.call116 Tryz.ntmps116 Tryz.results116 rfl rfl rfl rfl ?_
  intro X ρ0 hb_ hgl_
  dsimp only [c_copyN]
  try refine nrm ?_
  repeat' (refine ar_id ?_; first | refine st1 ?_ | (refine ar_drawS (id := 4) tt_ok (by kernel_rfl) [.keep, .call (c_KCopR k j.Plan.Move j.Plan.Keep [cellJ j j.Next] k1 b)] ?_; refine ed_hide ?_; intro K_ hK_; repeat' (first | ((first | refine ed_call3 ?_ | refine ed_sure3 ?_ | refine ed_cons3 ?_); refine ed_hide ?_; intro K_ hK_; (try dsimp only [c_KCopR]); (try refine nrmE ?_)) | (refine ed_nil ?_; (repeat subst hK_); dsimp only; refine Exists.intro _ (And.intro rfl (And.intro (by kernel_rfl) (And.intro ?_ ?_))); rotate_left; (try dsimp only [c_KCopR]); (try refine nrm ?_); rotate_right))) | (refine ar_drawS (id := 6) tt_ok (by kernel_rfl) [] ?_; refine ed_hide ?_; intro K_ hK_; repeat' (first | ((first | refine ed_call3 ?_ | refine ed_sure3 ?_ | refine ed_cons3 ?_); refine ed_hide ?_; intro K_ hK_; (try dsimp only [c_KCopR]); (try refine nrmE ?_)) | (refine ed_nil ?_; (repeat subst hK_); dsimp only; refine Exists.intro _ (And.intro rfl (And.intro (by kernel_rfl) (And.intro ?_ ?_))); rotate_left; (try dsimp only [c_KCopR]); (try refine nrm ?_); rotate_right))) | (first | ((first | refine ar_region tt_ok (inps := []) rfl ?_ ?_); rotate_left; (try dsimp only [c_KCopR]); (try refine nrm ?_); rotate_right) | refine ret3 ?_ | refine end3 ?_) | (refine ar_cond rfl trivial ?_ ?_ <;> intro hc_ <;> (try simp only [isNilI, inB, reduceCtorEq, cds] at hc_) <;> (try (first | contradiction | (exfalso; omega) | (exfalso; (rw [List.length_map] at hc_; omega))))) | refine ar_until (And.intro ?_ (wk3 ?_)))
  all_goals (first | refine ar_id ?_ | (try (focus ((try refine nrmO ?_); (repeat' (first | exact True.intro | refine And.intro ?_ ?_)); all_goals (try (intro (hg_ : _ = true); (try simp only [isNilI, inB, reduceCtorEq, cds] at hg_); (repeat' (first | exact True.intro | refine And.intro ?_ ?_)))); all_goals (first | exact ob1 | exact hF | exact ht2 | skip)))))
  all_goals first | rfl | trace_state
def c_remap (k : GKernel) (j : GJob) (k' : GKernel) (j' : GJob) : CFD := ⟨117, [.agg [.hd 901, .hd 902, .hd 903, (CV.lit (.int .i64 (k.Calls))), .hd 904], .agg [(CV.lit (.int .i64 (j.Plan.Keep))), (CV.lit (.int .i64 (j.Plan.Move))), .hd 906, (CV.lit (.int .i64 (j.Phase))), (CV.lit (.int .i64 (j.Next)))]], [(901, some (.row 33 1 (k.Machine.Frames.Cells.map eIntS))), (902, some (.row 4 1 (k.Machine.Frames.Used.map Tr.eB))), (903, some (.row 45 2 (k.Machine.Table.Entries.map eEntry))), (904, some (.row 3 1 (k.Refuse.map Tr.eI))), (906, some (.row 3 1 (j.Plan.Cells.map Tr.eI)))], .tup [.agg [.hd 911, .hd 912, .hd 913, (CV.lit (.int .i64 ((k').Calls))), .hd 914], .agg [(CV.lit (.int .i64 ((j').Plan.Keep))), (CV.lit (.int .i64 ((j').Plan.Move))), .hd 906, (CV.lit (.int .i64 ((j').Phase))), (CV.lit (.int .i64 ((j').Next)))]], [(911, some (.row 33 1 ((k').Machine.Frames.Cells.map eIntS))), (912, some (.row 4 1 ((k').Machine.Frames.Used.map Tr.eB))), (913, some (.row 45 2 ((k').Machine.Table.Entries.map eEntry))), (914, some (.row 3 1 ((k').Refuse.map Tr.eI))), (906, some (.row 3 1 ((j').Plan.Cells.map Tr.eI)))], [911, 912, 913, 914], []⟩
theorem fn_remap (k : GKernel) (j : GJob) (k' : GKernel) (j' : GJob) (hs : szK8 k) (hc : canCall k) (h : ((pOn k j.Plan.Move j.Plan.Keep).1, (⟨j.Plan, if (pOn k j.Plan.Move j.Plan.Keep).2 = true then 4 else 3, j.Next⟩ : GJob)) = (k', j')) : Fn Tryz.prog (c_remap k j k' j') := by
  obtain ⟨r, hr⟩ : ∃ r, pOn k j.Plan.Move j.Plan.Keep = r := ⟨_, rfl⟩
  obtain ⟨k1, b⟩ := r
  rw [hr] at h
  obtain ⟨rfl, rfl⟩ := Prod.mk.inj h
  cases b with
  | true =>
    refine fn_intro tt_ok Tryz.func117 rfl Tryz.call117 Tryz.ntmps117 Tryz.results117 rfl rfl rfl rfl ?_
    intro X ρ0 hb_ hgl_
    dsimp only [c_remap]
    try refine nrm ?_
    repeat' (refine ar_id ?_; first | refine st1 ?_ | (refine ar_drawS (id := 5) tt_ok (by kernel_rfl) [] ?_; refine ed_hide ?_; intro K_ hK_; repeat' (first | ((first | refine ed_call3 ?_ | refine ed_sure3 ?_ | refine ed_cons3 ?_); refine ed_hide ?_; intro K_ hK_; (try dsimp only [c_KOnR]); (try refine nrmE ?_)) | (refine ed_nil ?_; (repeat subst hK_); dsimp only; refine Exists.intro _ (And.intro rfl (And.intro (by kernel_rfl) (And.intro ?_ ?_))); rotate_left; (try dsimp only [c_KOnR]); (try refine nrm ?_); rotate_right))) | (first | ((first | refine ar_region (id := 1) tt_ok (inps := [.call (c_KOnR k j.Plan.Move j.Plan.Keep k1 true)]) rfl ?_ ?_ | refine ar_region tt_ok (inps := []) rfl ?_ ?_); rotate_left; (try dsimp only [c_KOnR]); (try refine nrm ?_); rotate_right) | refine ret3 ?_ | refine end3 ?_) | (refine ar_cond rfl trivial ?_ ?_ <;> intro hc_ <;> (try simp only [isNilI, inB, reduceCtorEq, cds] at hc_) <;> (try (first | contradiction | (exfalso; omega)))) | refine ar_until (And.intro ?_ (wk3 ?_)))
    all_goals (first | refine ar_id ?_ | (try (focus ((try refine nrmO ?_); (repeat' (first | exact True.intro | refine And.intro ?_ ?_)); all_goals (try (intro (hg_ : _ = true); (try simp only [isNilI, inB, reduceCtorEq, cds] at hg_); (repeat' (first | exact True.intro | refine And.intro ?_ ?_)))); all_goals (first | exact ob1 | exact fn_KOnR _ _ _ _ _ hs hc hr | skip)))))
    all_goals first | rfl | trace_state
  | false =>
    refine fn_intro tt_ok Tryz.func117 rfl Tryz.call117 Tryz.ntmps117 Tryz.results117 rfl rfl rfl rfl ?_
    intro X ρ0 hb_ hgl_
    dsimp only [c_remap]
    try refine nrm ?_
    repeat' (refine ar_id ?_; first | refine st1 ?_ | (refine ar_drawS (id := 5) tt_ok (by kernel_rfl) [] ?_; refine ed_hide ?_; intro K_ hK_; repeat' (first | ((first | refine ed_call3 ?_ | refine ed_sure3 ?_ | refine ed_cons3 ?_); refine ed_hide ?_; intro K_ hK_; (try dsimp only [c_KOnR]); (try refine nrmE ?_)) | (refine ed_nil ?_; (repeat subst hK_); dsimp only; refine Exists.intro _ (And.intro rfl (And.intro (by kernel_rfl) (And.intro ?_ ?_))); rotate_left; (try dsimp only [c_KOnR]); (try refine nrm ?_); rotate_right))) | (first | ((first | refine ar_region (id := 1) tt_ok (inps := [.call (c_KOnR k j.Plan.Move j.Plan.Keep k1 false)]) rfl ?_ ?_ | refine ar_region tt_ok (inps := []) rfl ?_ ?_); rotate_left; (try dsimp only [c_KOnR]); (try refine nrm ?_); rotate_right) | refine ret3 ?_ | refine end3 ?_) | (refine ar_cond rfl trivial ?_ ?_ <;> intro hc_ <;> (try simp only [isNilI, inB, reduceCtorEq, cds] at hc_) <;> (try (first | contradiction | (exfalso; omega)))) | refine ar_until (And.intro ?_ (wk3 ?_)))
    all_goals (first | refine ar_id ?_ | (try (focus ((try refine nrmO ?_); (repeat' (first | exact True.intro | refine And.intro ?_ ?_)); all_goals (try (intro (hg_ : _ = true); (try simp only [isNilI, inB, reduceCtorEq, cds] at hg_); (repeat' (first | exact True.intro | refine And.intro ?_ ?_)))); all_goals (first | exact ob1 | exact fn_KOnR _ _ _ _ _ hs hc hr | skip)))))
    all_goals first | rfl | trace_state
def c_backN (k : GKernel) (j : GJob) (k' : GKernel) (j' : GJob) : CFD := ⟨118, [.agg [.hd 901, .hd 902, .hd 903, (CV.lit (.int .i64 (k.Calls))), .hd 904], .agg [(CV.lit (.int .i64 (j.Plan.Keep))), (CV.lit (.int .i64 (j.Plan.Move))), .hd 906, (CV.lit (.int .i64 (j.Phase))), (CV.lit (.int .i64 (j.Next)))]], [(901, some (.row 33 1 (k.Machine.Frames.Cells.map eIntS))), (902, some (.row 4 1 (k.Machine.Frames.Used.map Tr.eB))), (903, some (.row 45 2 (k.Machine.Table.Entries.map eEntry))), (904, some (.row 3 1 (k.Refuse.map Tr.eI))), (906, some (.row 3 1 (j.Plan.Cells.map Tr.eI)))], .tup [.agg [.hd 911, .hd 912, .hd 913, (CV.lit (.int .i64 ((k').Calls))), .hd 914], .agg [(CV.lit (.int .i64 ((j').Plan.Keep))), (CV.lit (.int .i64 ((j').Plan.Move))), .hd 906, (CV.lit (.int .i64 ((j').Phase))), (CV.lit (.int .i64 ((j').Next)))]], [(911, some (.row 33 1 ((k').Machine.Frames.Cells.map eIntS))), (912, some (.row 4 1 ((k').Machine.Frames.Used.map Tr.eB))), (913, some (.row 45 2 ((k').Machine.Table.Entries.map eEntry))), (914, some (.row 3 1 ((k').Refuse.map Tr.eI))), (906, some (.row 3 1 ((j').Plan.Cells.map Tr.eI)))], [911, 912, 913, 914], []⟩
theorem fn_backN (k : GKernel) (j : GJob) (k' : GKernel) (j' : GJob) (hs : szK8 k) (hc : canCall k) (hn : ¬ 0 < j.Next) (h : ((pProtect k j.Plan.Move 2).1, (⟨j.Plan, if (pProtect k j.Plan.Move 2).2 = true then 5 else j.Phase, j.Next⟩ : GJob)) = (k', j')) : Fn Tryz.prog (c_backN k j k' j') := by
  obtain ⟨r, hr⟩ : ∃ r, pProtect k j.Plan.Move 2 = r := ⟨_, rfl⟩
  obtain ⟨k1, b⟩ := r
  rw [hr] at h
  obtain ⟨rfl, rfl⟩ := Prod.mk.inj h
  cases b with
  | true =>
    refine fn_intro tt_ok Tryz.func118 rfl Tryz.call118 Tryz.ntmps118 Tryz.results118 rfl rfl rfl rfl ?_
    intro X ρ0 hb_ hgl_
    dsimp only [c_backN]
    try refine nrm ?_
    repeat' (refine ar_id ?_; first | refine st1 ?_ | (refine ar_drawS (id := 8) tt_ok (by kernel_rfl) [] ?_; refine ed_hide ?_; intro K_ hK_; repeat' (first | ((first | refine ed_call3 ?_ | refine ed_sure3 ?_ | refine ed_cons3 ?_); refine ed_hide ?_; intro K_ hK_; (try dsimp only [c_KProR]); (try refine nrmE ?_)) | (refine ed_nil ?_; (repeat subst hK_); dsimp only; refine Exists.intro _ (And.intro rfl (And.intro (by kernel_rfl) (And.intro ?_ ?_))); rotate_left; (try dsimp only [c_KProR]); (try refine nrm ?_); rotate_right))) | (first | ((first | refine ar_region (id := 5) tt_ok (inps := [.call (c_KProR k j.Plan.Move 2 k1 true)]) rfl ?_ ?_ | refine ar_region tt_ok (inps := []) rfl ?_ ?_); rotate_left; (try dsimp only [c_KProR]); (try refine nrm ?_); rotate_right) | refine ret3 ?_ | refine end3 ?_) | (refine ar_cond rfl trivial ?_ ?_ <;> intro hc_ <;> (try simp only [isNilI, inB, reduceCtorEq, cds] at hc_) <;> (try (first | contradiction | (exfalso; omega)))) | refine ar_until (And.intro ?_ (wk3 ?_)))
    all_goals (first | refine ar_id ?_ | (try (focus ((try refine nrmO ?_); (repeat' (first | exact True.intro | refine And.intro ?_ ?_)); all_goals (try (intro (hg_ : _ = true); (try simp only [isNilI, inB, reduceCtorEq, cds] at hg_); (repeat' (first | exact True.intro | refine And.intro ?_ ?_)))); all_goals (first | exact ob1 | exact fn_KProR _ _ _ _ _ hs hc hr | skip)))))
    all_goals first | rfl | trace_state
  | false =>
    refine fn_intro tt_ok Tryz.func118 rfl Tryz.call118 Tryz.ntmps118 Tryz.results118 rfl rfl rfl rfl ?_
    intro X ρ0 hb_ hgl_
    dsimp only [c_backN]
    try refine nrm ?_
    repeat' (refine ar_id ?_; first | refine st1 ?_ | (refine ar_drawS (id := 8) tt_ok (by kernel_rfl) [] ?_; refine ed_hide ?_; intro K_ hK_; repeat' (first | ((first | refine ed_call3 ?_ | refine ed_sure3 ?_ | refine ed_cons3 ?_); refine ed_hide ?_; intro K_ hK_; (try dsimp only [c_KProR]); (try refine nrmE ?_)) | (refine ed_nil ?_; (repeat subst hK_); dsimp only; refine Exists.intro _ (And.intro rfl (And.intro (by kernel_rfl) (And.intro ?_ ?_))); rotate_left; (try dsimp only [c_KProR]); (try refine nrm ?_); rotate_right))) | (first | ((first | refine ar_region (id := 5) tt_ok (inps := [.call (c_KProR k j.Plan.Move 2 k1 false)]) rfl ?_ ?_ | refine ar_region tt_ok (inps := []) rfl ?_ ?_); rotate_left; (try dsimp only [c_KProR]); (try refine nrm ?_); rotate_right) | refine ret3 ?_ | refine end3 ?_) | (refine ar_cond rfl trivial ?_ ?_ <;> intro hc_ <;> (try simp only [isNilI, inB, reduceCtorEq, cds] at hc_) <;> (try (first | contradiction | (exfalso; omega)))) | refine ar_until (And.intro ?_ (wk3 ?_)))
    all_goals (first | refine ar_id ?_ | (try (focus ((try refine nrmO ?_); (repeat' (first | exact True.intro | refine And.intro ?_ ?_)); all_goals (try (intro (hg_ : _ = true); (try simp only [isNilI, inB, reduceCtorEq, cds] at hg_); (repeat' (first | exact True.intro | refine And.intro ?_ ?_)))); all_goals (first | exact ob1 | exact fn_KProR _ _ _ _ _ hs hc hr | skip)))))
    all_goals first | rfl | trace_state
def c_backS (s : Se) (k : GKernel) (j : GJob) (k' : GKernel) (j' : GJob) : CFD := ⟨118, [.agg [.hd 901, .hd 902, .hd 903, (CV.lit (.int .i64 (k.Calls))), .hd 904], .agg [(CV.lit (.int .i64 (j.Plan.Keep))), (CV.lit (.int .i64 (j.Plan.Move))), .hd 906, (CV.lit (.int .i64 (j.Phase))), (CV.lit (.int .i64 (j.Next)))]], [(901, some (.row 33 1 (k.Machine.Frames.Cells.map eIntS))), (902, some (.row 4 1 (k.Machine.Frames.Used.map Tr.eB))), (903, some (.row 45 2 (k.Machine.Table.Entries.map eEntry))), (904, some (.row 3 1 (k.Refuse.map Tr.eI))), (906, some (.row 3 1 (j.Plan.Cells.map Tr.eI)))], .tup [.agg [.hd 911, .hd 912, .hd 913, (CV.lit (.int .i64 (k'.Calls))), .hd 904], .agg [(CV.lit (.int .i64 ((j').Plan.Keep))), (CV.lit (.int .i64 ((j').Plan.Move))), .hd 906, (CV.lit (.int .i64 ((j').Phase))), (CV.lit (.int .i64 ((j').Next)))]], [(911, some (.row 33 1 ((k'.Machine).Frames.Cells.map eIntS))), (912, some (.row 4 1 ((k'.Machine).Frames.Used.map Tr.eB))), (913, some (.row 45 2 ((k'.Machine).Table.Entries.map eEntry))), (904, some (.row 3 1 (k'.Refuse.map Tr.eI))), (906, some (.row 3 1 ((j').Plan.Cells.map Tr.eI)))], [911, 912, 913], s.gl⟩
theorem fn_backS (s : Se) (k : GKernel) (j : GJob) (k' : GKernel) (j' : GJob) (hs : szK8 k) (hl : j.Plan.Cells.length ≤ 1048576) (hj : okJ j) (hn : 0 < j.Next) (hk : ((⟨(pStore k.Machine (j.Plan.Keep * 16 + cellJ j (j.Next - 1)) 0).1, k.Calls, k.Refuse⟩ : GKernel), (⟨j.Plan, j.Phase, j.Next - 1⟩ : GJob)) = (k', j')) : Fn Tryz.prog (c_backS s k j k' j') := by
  obtain ⟨hp, hph, hn0, hn1⟩ := hj
  obtain ⟨r, hr⟩ : ∃ r, pStore k.Machine (j.Plan.Keep * 16 + cellJ j (j.Next - 1)) 0 = r := ⟨_, rfl⟩
  obtain ⟨m1, x⟩ := r
  rw [hr] at hk
  obtain ⟨rfl, rfl⟩ := Prod.mk.inj hk
  have hlt : (j.Next - 1).toNat < j.Plan.Cells.length := by omega
  have hc := asc_at hp.2.2.2 hlt
  have hel : (j.Plan.Cells.map Tr.eI)[(j.Next - 1).toNat]? = some (Tr.eI (cellJ j (j.Next - 1))) := map_at hlt
  unfold cellJ at hr hel
  generalize j.Plan.Cells.getD (j.Next - 1).toNat 0 = c at hr hel hc
  have hkp := hp.2.1
  refine fn_intro tt_ok Tryz.func118 rfl Tryz.call118 Tryz.ntmps118 Tryz.results118 rfl rfl rfl rfl ?_
  intro X ρ0 hb_ hgl_
  dsimp only [c_backS]
  try refine nrm ?_
  repeat' (refine ar_id ?_; first | refine st1 ?_ | (refine ar_drawS (id := 3) tt_ok (by kernel_rfl) [.elem (Tr.eI c), .call (c_StoR s k.Machine (j.Plan.Keep * 16 + c) 0 m1 x)] ?_; refine ed_hide ?_; intro K_ hK_; repeat' (first | ((first | refine ed_call3 ?_ | refine ed_sure3 ?_ | refine ed_cons3 ?_); refine ed_hide ?_; intro K_ hK_; (try dsimp only [c_StoR]); (try refine nrmE ?_)) | (refine ed_nil ?_; (repeat subst hK_); dsimp only; refine Exists.intro _ (And.intro rfl (And.intro (by kernel_rfl) (And.intro ?_ ?_))); rotate_left; (try dsimp only [c_StoR]); (try refine nrm ?_); rotate_right))) | (refine ar_drawS (id := 4) tt_ok (by kernel_rfl) [] ?_; refine ed_hide ?_; intro K_ hK_; repeat' (first | ((first | refine ed_call3 ?_ | refine ed_sure3 ?_ | refine ed_cons3 ?_); refine ed_hide ?_; intro K_ hK_; (try dsimp only [c_StoR]); (try refine nrmE ?_)) | (refine ed_nil ?_; (repeat subst hK_); dsimp only; refine Exists.intro _ (And.intro rfl (And.intro (by kernel_rfl) (And.intro ?_ ?_))); rotate_left; (try dsimp only [c_StoR]); (try refine nrm ?_); rotate_right))) | (first | ((first | refine ar_region tt_ok (inps := []) rfl ?_ ?_); rotate_left; (try dsimp only [c_StoR]); (try refine nrm ?_); rotate_right) | refine ret3 ?_ | refine end3 ?_) | (refine ar_cond rfl trivial ?_ ?_ <;> intro hc_ <;> (try simp only [isNilI, inB, reduceCtorEq, cds] at hc_) <;> (try (first | contradiction | (exfalso; omega)))) | refine ar_until (And.intro ?_ (wk3 ?_)))
  all_goals (first | refine ar_id ?_ | (try (focus ((try refine nrmO ?_); (repeat' (first | exact True.intro | refine And.intro ?_ ?_)); all_goals (try (intro (hg_ : _ = true); (try simp only [isNilI, inB, reduceCtorEq, cds] at hg_); (repeat' (first | exact True.intro | refine And.intro ?_ ?_)))); all_goals (first | exact ob1 | exact fn_StoR _ _ _ _ _ _ hs.m ⟨by omega, by omega⟩ hr | exact hel | exact hgl_.1 | exact hgl_.2.1 | exact hgl_.2.2.1 | exact hgl_.2.2.2.1 | exact hgl_.2.2.2.2.1 | exact hgl_.2.2.2.2.2.1 | exact hgl_.2.2.2.2.2.2.1 | exact hgl_.2.2.2.2.2.2.2.1 | exact hgl_ | exact rfl | exact one1 rfl | skip)))))
  all_goals first | rfl | trace_state
def c_stay (k : GKernel) (j : GJob) (j' : GJob) : CFD := ⟨119, [.agg [.hd 901, .hd 902, .hd 903, (CV.lit (.int .i64 (k.Calls))), .hd 904], .agg [(CV.lit (.int .i64 (j.Plan.Keep))), (CV.lit (.int .i64 (j.Plan.Move))), .hd 906, (CV.lit (.int .i64 (j.Phase))), (CV.lit (.int .i64 (j.Next)))]], [(901, some (.row 33 1 (k.Machine.Frames.Cells.map eIntS))), (902, some (.row 4 1 (k.Machine.Frames.Used.map Tr.eB))), (903, some (.row 45 2 (k.Machine.Table.Entries.map eEntry))), (904, some (.row 3 1 (k.Refuse.map Tr.eI))), (906, some (.row 3 1 (j.Plan.Cells.map Tr.eI)))], .tup [.agg [.hd 901, .hd 902, .hd 903, (CV.lit (.int .i64 (k.Calls))), .hd 904], .agg [(CV.lit (.int .i64 ((j').Plan.Keep))), (CV.lit (.int .i64 ((j').Plan.Move))), .hd 906, (CV.lit (.int .i64 ((j').Phase))), (CV.lit (.int .i64 ((j').Next)))]], [(901, some (.row 33 1 (k.Machine.Frames.Cells.map eIntS))), (902, some (.row 4 1 (k.Machine.Frames.Used.map Tr.eB))), (903, some (.row 45 2 (k.Machine.Table.Entries.map eEntry))), (904, some (.row 3 1 (k.Refuse.map Tr.eI))), (906, some (.row 3 1 ((j').Plan.Cells.map Tr.eI)))], [], []⟩
theorem fn_stay (k : GKernel) (j : GJob) : Fn Tryz.prog (c_stay k j j) := by
  refine fn_intro tt_ok Tryz.func119 rfl Tryz.call119 Tryz.ntmps119 Tryz.results119 rfl rfl rfl rfl ?_
  intro X ρ0 hb_ hgl_
  dsimp only [c_stay]
  try refine nrm ?_
  repeat' (refine ar_id ?_; first | refine st1 ?_ | (refine ar_drawS (id := 1) tt_ok (by kernel_rfl) [] ?_; refine ed_hide ?_; intro K_ hK_; repeat' (first | ((first | refine ed_call3 ?_ | refine ed_sure3 ?_ | refine ed_cons3 ?_); refine ed_hide ?_; intro K_ hK_; (try refine nrmE ?_)) | (refine ed_nil ?_; (repeat subst hK_); dsimp only; refine Exists.intro _ (And.intro rfl (And.intro (by kernel_rfl) (And.intro ?_ ?_))); rotate_left; (try refine nrm ?_); rotate_right))) | (first | ((first | refine ar_region tt_ok (inps := []) rfl ?_ ?_); rotate_left; (try refine nrm ?_); rotate_right) | refine ret3 ?_ | refine end3 ?_) | (refine ar_cond rfl trivial ?_ ?_ <;> intro hc_ <;> (try simp only [isNilI, inB, reduceCtorEq, cds] at hc_) <;> (try (first | contradiction | (exfalso; omega)))) | refine ar_until (And.intro ?_ (wk3 ?_)))
  all_goals (first | refine ar_id ?_ | (try (focus ((try refine nrmO ?_); (repeat' (first | exact True.intro | refine And.intro ?_ ?_)); all_goals (try (intro (hg_ : _ = true); (try simp only [isNilI, inB, reduceCtorEq, cds] at hg_); (repeat' (first | exact True.intro | refine And.intro ?_ ?_)))); all_goals (first | exact ob1 | skip)))))
  all_goals first | rfl | trace_state
end Eng
end Go.Proofs.YtlkkiopjknbomaaGreatDoor
namespace Go.Proofs.YtlkkiopjknbomaaGreatDoor
open Go.RowKit
set_option linter.unusedVariables false
set_option linter.unusedSimpArgs false
set_option maxRecDepth 100000
namespace Eng
open Tr
def c_JStepI (s : Se) (k : GKernel) (j : GJob) (k' : GKernel) (j' : GJob) : CFD := ⟨32, [.agg [ro 33 1 eIntS k.Machine.Frames.Cells, ro 4 1 Tr.eB k.Machine.Frames.Used, ro 45 2 eEntry k.Machine.Table.Entries, (CV.lit (.int .i64 (k.Calls))), ro 3 1 Tr.eI k.Refuse], .agg [(CV.lit (.int .i64 (j.Plan.Keep))), (CV.lit (.int .i64 (j.Plan.Move))), ro 3 1 Tr.eI j.Plan.Cells, (CV.lit (.int .i64 (j.Phase))), (CV.lit (.int .i64 (j.Next)))]], [], .tup [.agg [.hd 0, .hd 1, .hd 2, (CV.lit (.int .i64 ((k').Calls))), .hd 3], .agg [(CV.lit (.int .i64 ((j').Plan.Keep))), (CV.lit (.int .i64 ((j').Plan.Move))), .hd 4, (CV.lit (.int .i64 ((j').Phase))), (CV.lit (.int .i64 ((j').Next)))]], [(0, some (.row 33 1 ((k').Machine.Frames.Cells.map eIntS))), (1, some (.row 4 1 ((k').Machine.Frames.Used.map Tr.eB))), (2, some (.row 45 2 ((k').Machine.Table.Entries.map eEntry))), (3, some (.row 3 1 ((k').Refuse.map Tr.eI))), (4, some (.row 3 1 ((j').Plan.Cells.map Tr.eI)))], [0, 1, 2, 3, 4], s.gl⟩
set_option maxHeartbeats 8000000 in
theorem fn_JStepI (s : Se) (k : GKernel) (j : GJob) (k' : GKernel) (j' : GJob) (hs : szK8 k) (hl : j.Plan.Cells.length ≤ 1048576) (h : pJobStep k j = (k', j')) : Fn Tryz.prog (c_JStepI s k j k' j') := by
  have hcp := fn_CopyKI k (szK_from hs)
  unfold pJobStep at h
  by_cases hm : mayJ k j
  · rw [if_pos hm] at h
    have hd : decide (mayJ k j) = true := decide_eq_true hm
    have hcj := fn_copyJI j hl
    have hcan := fn_can k j hs hl
    have hc : canCall k := hm.1
    have hj := hm.2.1
    obtain ⟨pl, ph, nx⟩ := j
    have hph := hj.2.1
    unfold stepJ at h
    by_cases p0 : ph = 0
    · subst p0
      rw [if_pos rfl] at h
      refine fn_intro tt_ok Tryz.func32 rfl Tryz.call32 Tryz.ntmps32 Tryz.results32 rfl rfl rfl rfl ?_
      intro X ρ0 hb_ hgl_
      dsimp only [c_JStepI]
      try refine nrm ?_
      repeat' (refine ar_id ?_; first | refine st1 ?_ | (refine ar_drawS (id := 1) tt_ok (by kernel_rfl) [.call (c_CopyKI k), .call (c_copyJI ⟨pl, 0, nx⟩)] ?_; refine ed_hide ?_; intro K_ hK_; repeat' (first | ((first | refine ed_call3 ?_ | refine ed_sure3 ?_ | refine ed_cons3 ?_); refine ed_hide ?_; intro K_ hK_; (try dsimp only [c_CopyKI, c_can, c_copyJI, c_phases, c_protM]); (try refine nrmE ?_)) | (refine ed_nil ?_; (repeat subst hK_); dsimp only; refine Exists.intro _ (And.intro rfl (And.intro (by kernel_rfl) (And.intro ?_ ?_))); rotate_left; (try dsimp only [c_CopyKI, c_can, c_copyJI, c_phases, c_protM]); (try refine nrm ?_); rotate_right))) | (refine ar_drawS (id := 3) tt_ok (by kernel_rfl) [] ?_; refine ed_hide ?_; intro K_ hK_; repeat' (first | ((first | refine ed_call3 ?_ | refine ed_sure3 ?_ | refine ed_cons3 ?_); refine ed_hide ?_; intro K_ hK_; (try dsimp only [c_CopyKI, c_can, c_copyJI, c_phases, c_protM]); (try refine nrmE ?_)) | (refine ed_nil ?_; (repeat subst hK_); dsimp only; refine Exists.intro _ (And.intro rfl (And.intro (by kernel_rfl) (And.intro ?_ ?_))); rotate_left; (try dsimp only [c_CopyKI, c_can, c_copyJI, c_phases, c_protM]); (try refine nrm ?_); rotate_right))) | (refine ar_drawS (id := 4) tt_ok (by kernel_rfl) [.call (c_phases), .call (c_protM k ⟨pl, 0, nx⟩ k' j')] ?_; refine ed_hide ?_; intro K_ hK_; repeat' (first | ((first | refine ed_call3 ?_ | refine ed_sure3 ?_ | refine ed_cons3 ?_); refine ed_hide ?_; intro K_ hK_; (try dsimp only [c_CopyKI, c_can, c_copyJI, c_phases, c_protM]); (try refine nrmE ?_)) | (refine ed_nil ?_; (repeat subst hK_); dsimp only; refine Exists.intro _ (And.intro rfl (And.intro (by kernel_rfl) (And.intro ?_ ?_))); rotate_left; (try dsimp only [c_CopyKI, c_can, c_copyJI, c_phases, c_protM]); (try refine nrm ?_); rotate_right))) | (first | ((first | refine ar_region (id := 2) tt_ok (inps := [.call (c_can k ⟨pl, 0, nx⟩)]) rfl ?_ ?_ | refine ar_region tt_ok (inps := []) rfl ?_ ?_); rotate_left; (try dsimp only [c_CopyKI, c_can, c_copyJI, c_phases, c_protM]); (try refine nrm ?_); rotate_right) | refine ret3 ?_ | refine end3 ?_) | (refine ar_cond rfl trivial ?_ ?_ <;> intro hc_ <;> (try simp only [isNilI, inB, reduceCtorEq, cds] at hc_) <;> (try (first | contradiction | (exfalso; omega) | (exfalso; grind)))) | refine ar_until (And.intro ?_ (wk3 ?_)))
      all_goals (first | refine ar_id ?_ | (try (focus ((try refine nrmO ?_); (repeat' (first | exact True.intro | refine And.intro ?_ ?_)); all_goals (try (intro (hg_ : _ = true); (try simp only [isNilI, inB, reduceCtorEq, cds] at hg_); (repeat' (first | exact True.intro | refine And.intro ?_ ?_)))); all_goals (first | exact ob1 | exact hcp | exact hcj | exact hcan | exact fn_phases | exact fn_protM _ _ _ _ hs hc h | skip)))))
      all_goals trace_state
    rw [if_neg (show ¬ (⟨pl, ph, nx⟩ : GJob).Phase = 0 from p0)] at h
    by_cases p1 : ph = 1
    · subst p1
      rw [if_pos rfl] at h
      by_cases hl2 : nx = (pl.Cells.length : Int)
      · rw [if_pos (show (⟨pl, 1, nx⟩ : GJob).Next = ((⟨pl, 1, nx⟩ : GJob).Plan.Cells.length : Int) from hl2)] at h
        obtain ⟨rfl, rfl⟩ := Prod.mk.inj h
        refine fn_intro tt_ok Tryz.func32 rfl Tryz.call32 Tryz.ntmps32 Tryz.results32 rfl rfl rfl rfl ?_
        intro X ρ0 hb_ hgl_
        dsimp only [c_JStepI]
        try refine nrm ?_
        repeat' (refine ar_id ?_; first | refine st1 ?_ | (refine ar_drawS (id := 1) tt_ok (by kernel_rfl) [.call (c_CopyKI k), .call (c_copyJI ⟨pl, 1, nx⟩)] ?_; refine ed_hide ?_; intro K_ hK_; repeat' (first | ((first | refine ed_call3 ?_ | refine ed_sure3 ?_ | refine ed_cons3 ?_); refine ed_hide ?_; intro K_ hK_; (try dsimp only [c_CopyKI, c_can, c_copyE, c_copyJI, c_phases]); (try refine nrmE ?_)) | (refine ed_nil ?_; (repeat subst hK_); dsimp only; refine Exists.intro _ (And.intro rfl (And.intro (by kernel_rfl) (And.intro ?_ ?_))); rotate_left; (try dsimp only [c_CopyKI, c_can, c_copyE, c_copyJI, c_phases]); (try refine nrm ?_); rotate_right))) | (refine ar_drawS (id := 3) tt_ok (by kernel_rfl) [] ?_; refine ed_hide ?_; intro K_ hK_; repeat' (first | ((first | refine ed_call3 ?_ | refine ed_sure3 ?_ | refine ed_cons3 ?_); refine ed_hide ?_; intro K_ hK_; (try dsimp only [c_CopyKI, c_can, c_copyE, c_copyJI, c_phases]); (try refine nrmE ?_)) | (refine ed_nil ?_; (repeat subst hK_); dsimp only; refine Exists.intro _ (And.intro rfl (And.intro (by kernel_rfl) (And.intro ?_ ?_))); rotate_left; (try dsimp only [c_CopyKI, c_can, c_copyE, c_copyJI, c_phases]); (try refine nrm ?_); rotate_right))) | (refine ar_drawS (id := 4) tt_ok (by kernel_rfl) [.call (c_phases), .call (c_copyE k ⟨pl, 1, nx⟩ ⟨pl, 2, nx⟩)] ?_; refine ed_hide ?_; intro K_ hK_; repeat' (first | ((first | refine ed_call3 ?_ | refine ed_sure3 ?_ | refine ed_cons3 ?_); refine ed_hide ?_; intro K_ hK_; (try dsimp only [c_CopyKI, c_can, c_copyE, c_copyJI, c_phases]); (try refine nrmE ?_)) | (refine ed_nil ?_; (repeat subst hK_); dsimp only; refine Exists.intro _ (And.intro rfl (And.intro (by kernel_rfl) (And.intro ?_ ?_))); rotate_left; (try dsimp only [c_CopyKI, c_can, c_copyE, c_copyJI, c_phases]); (try refine nrm ?_); rotate_right))) | (first | ((first | refine ar_region (id := 2) tt_ok (inps := [.call (c_can k ⟨pl, 1, nx⟩)]) rfl ?_ ?_ | refine ar_region tt_ok (inps := []) rfl ?_ ?_); rotate_left; (try dsimp only [c_CopyKI, c_can, c_copyE, c_copyJI, c_phases]); (try refine nrm ?_); rotate_right) | refine ret3 ?_ | refine end3 ?_) | (refine ar_cond rfl trivial ?_ ?_ <;> intro hc_ <;> (try simp only [isNilI, inB, reduceCtorEq, cds] at hc_) <;> (try (first | contradiction | (exfalso; omega) | (exfalso; grind)))) | refine ar_until (And.intro ?_ (wk3 ?_)))
        all_goals (first | refine ar_id ?_ | (try (focus ((try refine nrmO ?_); (repeat' (first | exact True.intro | refine And.intro ?_ ?_)); all_goals (try (intro (hg_ : _ = true); (try simp only [isNilI, inB, reduceCtorEq, cds] at hg_); (repeat' (first | exact True.intro | refine And.intro ?_ ?_)))); all_goals (first | exact ob1 | exact hcp | exact hcj | exact hcan | exact fn_phases | exact fn_copyE k ⟨pl, 1, nx⟩ hl2 | skip)))))
        all_goals trace_state
      · rw [if_neg (show ¬ (⟨pl, 1, nx⟩ : GJob).Next = ((⟨pl, 1, nx⟩ : GJob).Plan.Cells.length : Int) from hl2)] at h
        obtain ⟨r, hr⟩ : ∃ r, pCells k pl.Move pl.Keep [cellJ ⟨pl, 1, nx⟩ nx] = r := ⟨_, rfl⟩
        obtain ⟨k1, b⟩ := r
        dsimp only at h
        rw [hr] at h
        obtain ⟨rfl, rfl⟩ := Prod.mk.inj h
        have hn0 : 0 ≤ nx := hj.2.2.1
        have hn1 : nx ≤ (pl.Cells.length : Int) := hj.2.2.2
        refine fn_intro tt_ok Tryz.func32 rfl Tryz.call32 Tryz.ntmps32 Tryz.results32 rfl rfl rfl rfl ?_
        intro X ρ0 hb_ hgl_
        dsimp only [c_JStepI]
        try refine nrm ?_
        repeat' (refine ar_id ?_; first | refine st1 ?_ | (refine ar_drawS (id := 1) tt_ok (by kernel_rfl) [.call (c_CopyKI k), .call (c_copyJI ⟨pl, 1, nx⟩)] ?_; refine ed_hide ?_; intro K_ hK_; repeat' (first | ((first | refine ed_call3 ?_ | refine ed_sure3 ?_ | refine ed_cons3 ?_); refine ed_hide ?_; intro K_ hK_; (try dsimp only [c_CopyKI, c_can, c_copyJI, c_copyN, c_phases]); (try refine nrmE ?_)) | (refine ed_nil ?_; (repeat subst hK_); dsimp only; refine Exists.intro _ (And.intro rfl (And.intro (by kernel_rfl) (And.intro ?_ ?_))); rotate_left; (try dsimp only [c_CopyKI, c_can, c_copyJI, c_copyN, c_phases]); (try refine nrm ?_); rotate_right))) | (refine ar_drawS (id := 3) tt_ok (by kernel_rfl) [] ?_; refine ed_hide ?_; intro K_ hK_; repeat' (first | ((first | refine ed_call3 ?_ | refine ed_sure3 ?_ | refine ed_cons3 ?_); refine ed_hide ?_; intro K_ hK_; (try dsimp only [c_CopyKI, c_can, c_copyJI, c_copyN, c_phases]); (try refine nrmE ?_)) | (refine ed_nil ?_; (repeat subst hK_); dsimp only; refine Exists.intro _ (And.intro rfl (And.intro (by kernel_rfl) (And.intro ?_ ?_))); rotate_left; (try dsimp only [c_CopyKI, c_can, c_copyJI, c_copyN, c_phases]); (try refine nrm ?_); rotate_right))) | (refine ar_drawS (id := 4) tt_ok (by kernel_rfl) [.call (c_phases), .call (c_copyN k ⟨pl, 1, nx⟩ k1 ⟨pl, 1, nx + 1⟩)] ?_; refine ed_hide ?_; intro K_ hK_; repeat' (first | ((first | refine ed_call3 ?_ | refine ed_sure3 ?_ | refine ed_cons3 ?_); refine ed_hide ?_; intro K_ hK_; (try dsimp only [c_CopyKI, c_can, c_copyJI, c_copyN, c_phases]); (try refine nrmE ?_)) | (refine ed_nil ?_; (repeat subst hK_); dsimp only; refine Exists.intro _ (And.intro rfl (And.intro (by kernel_rfl) (And.intro ?_ ?_))); rotate_left; (try dsimp only [c_CopyKI, c_can, c_copyJI, c_copyN, c_phases]); (try refine nrm ?_); rotate_right))) | (first | ((first | refine ar_region (id := 2) tt_ok (inps := [.call (c_can k ⟨pl, 1, nx⟩)]) rfl ?_ ?_ | refine ar_region tt_ok (inps := []) rfl ?_ ?_); rotate_left; (try dsimp only [c_CopyKI, c_can, c_copyJI, c_copyN, c_phases]); (try refine nrm ?_); rotate_right) | refine ret3 ?_ | refine end3 ?_) | (refine ar_cond rfl trivial ?_ ?_ <;> intro hc_ <;> (try simp only [isNilI, inB, reduceCtorEq, cds] at hc_) <;> (try (first | contradiction | (exfalso; omega) | (exfalso; grind)))) | refine ar_until (And.intro ?_ (wk3 ?_)))
        all_goals (first | refine ar_id ?_ | (try (focus ((try refine nrmO ?_); (repeat' (first | exact True.intro | refine And.intro ?_ ?_)); all_goals (try (intro (hg_ : _ = true); (try simp only [isNilI, inB, reduceCtorEq, cds] at hg_); (repeat' (first | exact True.intro | refine And.intro ?_ ?_)))); all_goals (first | exact ob1 | exact hcp | exact hcj | exact hcan | exact fn_phases | exact fn_copyN k ⟨pl, 1, nx⟩ k1 b hs hc hn0 (by dsimp only; omega) hl hr | skip)))))
        all_goals trace_state
    rw [if_neg (show ¬ (⟨pl, ph, nx⟩ : GJob).Phase = 1 from p1)] at h
    by_cases p2 : ph = 2
    · subst p2
      rw [if_pos rfl] at h
      refine fn_intro tt_ok Tryz.func32 rfl Tryz.call32 Tryz.ntmps32 Tryz.results32 rfl rfl rfl rfl ?_
      intro X ρ0 hb_ hgl_
      dsimp only [c_JStepI]
      try refine nrm ?_
      repeat' (refine ar_id ?_; first | refine st1 ?_ | (refine ar_drawS (id := 1) tt_ok (by kernel_rfl) [.call (c_CopyKI k), .call (c_copyJI ⟨pl, 2, nx⟩)] ?_; refine ed_hide ?_; intro K_ hK_; repeat' (first | ((first | refine ed_call3 ?_ | refine ed_sure3 ?_ | refine ed_cons3 ?_); refine ed_hide ?_; intro K_ hK_; (try dsimp only [c_CopyKI, c_can, c_copyJI, c_phases, c_remap]); (try refine nrmE ?_)) | (refine ed_nil ?_; (repeat subst hK_); dsimp only; refine Exists.intro _ (And.intro rfl (And.intro (by kernel_rfl) (And.intro ?_ ?_))); rotate_left; (try dsimp only [c_CopyKI, c_can, c_copyJI, c_phases, c_remap]); (try refine nrm ?_); rotate_right))) | (refine ar_drawS (id := 3) tt_ok (by kernel_rfl) [] ?_; refine ed_hide ?_; intro K_ hK_; repeat' (first | ((first | refine ed_call3 ?_ | refine ed_sure3 ?_ | refine ed_cons3 ?_); refine ed_hide ?_; intro K_ hK_; (try dsimp only [c_CopyKI, c_can, c_copyJI, c_phases, c_remap]); (try refine nrmE ?_)) | (refine ed_nil ?_; (repeat subst hK_); dsimp only; refine Exists.intro _ (And.intro rfl (And.intro (by kernel_rfl) (And.intro ?_ ?_))); rotate_left; (try dsimp only [c_CopyKI, c_can, c_copyJI, c_phases, c_remap]); (try refine nrm ?_); rotate_right))) | (refine ar_drawS (id := 4) tt_ok (by kernel_rfl) [.call (c_phases), .call (c_remap k ⟨pl, 2, nx⟩ k' j')] ?_; refine ed_hide ?_; intro K_ hK_; repeat' (first | ((first | refine ed_call3 ?_ | refine ed_sure3 ?_ | refine ed_cons3 ?_); refine ed_hide ?_; intro K_ hK_; (try dsimp only [c_CopyKI, c_can, c_copyJI, c_phases, c_remap]); (try refine nrmE ?_)) | (refine ed_nil ?_; (repeat subst hK_); dsimp only; refine Exists.intro _ (And.intro rfl (And.intro (by kernel_rfl) (And.intro ?_ ?_))); rotate_left; (try dsimp only [c_CopyKI, c_can, c_copyJI, c_phases, c_remap]); (try refine nrm ?_); rotate_right))) | (first | ((first | refine ar_region (id := 2) tt_ok (inps := [.call (c_can k ⟨pl, 2, nx⟩)]) rfl ?_ ?_ | refine ar_region tt_ok (inps := []) rfl ?_ ?_); rotate_left; (try dsimp only [c_CopyKI, c_can, c_copyJI, c_phases, c_remap]); (try refine nrm ?_); rotate_right) | refine ret3 ?_ | refine end3 ?_) | (refine ar_cond rfl trivial ?_ ?_ <;> intro hc_ <;> (try simp only [isNilI, inB, reduceCtorEq, cds] at hc_) <;> (try (first | contradiction | (exfalso; omega) | (exfalso; grind)))) | refine ar_until (And.intro ?_ (wk3 ?_)))
      all_goals (first | refine ar_id ?_ | (try (focus ((try refine nrmO ?_); (repeat' (first | exact True.intro | refine And.intro ?_ ?_)); all_goals (try (intro (hg_ : _ = true); (try simp only [isNilI, inB, reduceCtorEq, cds] at hg_); (repeat' (first | exact True.intro | refine And.intro ?_ ?_)))); all_goals (first | exact ob1 | exact hcp | exact hcj | exact hcan | exact fn_phases | exact fn_remap _ _ _ _ hs hc h | skip)))))
      all_goals trace_state
    rw [if_neg (show ¬ (⟨pl, ph, nx⟩ : GJob).Phase = 2 from p2)] at h
    by_cases p3 : ph = 3
    · subst p3
      rw [if_pos rfl] at h
      by_cases hB : 0 < nx
      · rw [if_pos (show 0 < (⟨pl, 3, nx⟩ : GJob).Next from hB)] at h
        refine fn_intro tt_ok Tryz.func32 rfl Tryz.call32 Tryz.ntmps32 Tryz.results32 rfl rfl rfl rfl ?_
        intro X ρ0 hb_ hgl_
        dsimp only [c_JStepI]
        try refine nrm ?_
        repeat' (refine ar_id ?_; first | refine st1 ?_ | (refine ar_drawS (id := 1) tt_ok (by kernel_rfl) [.call (c_CopyKI k), .call (c_copyJI ⟨pl, 3, nx⟩)] ?_; refine ed_hide ?_; intro K_ hK_; repeat' (first | ((first | refine ed_call3 ?_ | refine ed_sure3 ?_ | refine ed_cons3 ?_); refine ed_hide ?_; intro K_ hK_; (try dsimp only [c_CopyKI, c_backS, c_can, c_copyJI, c_phases]); (try refine nrmE ?_)) | (refine ed_nil ?_; (repeat subst hK_); dsimp only; refine Exists.intro _ (And.intro rfl (And.intro (by kernel_rfl) (And.intro ?_ ?_))); rotate_left; (try dsimp only [c_CopyKI, c_backS, c_can, c_copyJI, c_phases]); (try refine nrm ?_); rotate_right))) | (refine ar_drawS (id := 3) tt_ok (by kernel_rfl) [] ?_; refine ed_hide ?_; intro K_ hK_; repeat' (first | ((first | refine ed_call3 ?_ | refine ed_sure3 ?_ | refine ed_cons3 ?_); refine ed_hide ?_; intro K_ hK_; (try dsimp only [c_CopyKI, c_backS, c_can, c_copyJI, c_phases]); (try refine nrmE ?_)) | (refine ed_nil ?_; (repeat subst hK_); dsimp only; refine Exists.intro _ (And.intro rfl (And.intro (by kernel_rfl) (And.intro ?_ ?_))); rotate_left; (try dsimp only [c_CopyKI, c_backS, c_can, c_copyJI, c_phases]); (try refine nrm ?_); rotate_right))) | (refine ar_drawS (id := 4) tt_ok (by kernel_rfl) [.call (c_phases), .call (c_backS s k ⟨pl, 3, nx⟩ k' j')] ?_; refine ed_hide ?_; intro K_ hK_; repeat' (first | ((first | refine ed_call3 ?_ | refine ed_sure3 ?_ | refine ed_cons3 ?_); refine ed_hide ?_; intro K_ hK_; (try dsimp only [c_CopyKI, c_backS, c_can, c_copyJI, c_phases]); (try refine nrmE ?_)) | (refine ed_nil ?_; (repeat subst hK_); dsimp only; refine Exists.intro _ (And.intro rfl (And.intro (by kernel_rfl) (And.intro ?_ ?_))); rotate_left; (try dsimp only [c_CopyKI, c_backS, c_can, c_copyJI, c_phases]); (try refine nrm ?_); rotate_right))) | (first | ((first | refine ar_region (id := 2) tt_ok (inps := [.call (c_can k ⟨pl, 3, nx⟩)]) rfl ?_ ?_ | refine ar_region tt_ok (inps := []) rfl ?_ ?_); rotate_left; (try dsimp only [c_CopyKI, c_backS, c_can, c_copyJI, c_phases]); (try refine nrm ?_); rotate_right) | refine ret3 ?_ | refine end3 ?_) | (refine ar_cond rfl trivial ?_ ?_ <;> intro hc_ <;> (try simp only [isNilI, inB, reduceCtorEq, cds] at hc_) <;> (try (first | contradiction | (exfalso; omega) | (exfalso; grind)))) | refine ar_until (And.intro ?_ (wk3 ?_)))
        all_goals (first | refine ar_id ?_ | (try (focus ((try refine nrmO ?_); (repeat' (first | exact True.intro | refine And.intro ?_ ?_)); all_goals (try (intro (hg_ : _ = true); (try simp only [isNilI, inB, reduceCtorEq, cds] at hg_); (repeat' (first | exact True.intro | refine And.intro ?_ ?_)))); all_goals (first | exact ob1 | exact hcp | exact hcj | exact hcan | exact fn_phases | exact fn_backS s k ⟨pl, 3, nx⟩ k' j' hs hl hj hB h | exact hgl_.1 | exact hgl_.2.1 | exact hgl_.2.2.1 | exact hgl_.2.2.2.1 | exact hgl_.2.2.2.2.1 | exact hgl_.2.2.2.2.2.1 | exact hgl_.2.2.2.2.2.2.1 | exact hgl_.2.2.2.2.2.2.2.1 | exact hgl_ | exact rfl | exact one1 rfl | skip)))))
        all_goals trace_state
      · rw [if_neg (show ¬ 0 < (⟨pl, 3, nx⟩ : GJob).Next from hB)] at h
        refine fn_intro tt_ok Tryz.func32 rfl Tryz.call32 Tryz.ntmps32 Tryz.results32 rfl rfl rfl rfl ?_
        intro X ρ0 hb_ hgl_
        dsimp only [c_JStepI]
        try refine nrm ?_
        repeat' (refine ar_id ?_; first | refine st1 ?_ | (refine ar_drawS (id := 1) tt_ok (by kernel_rfl) [.call (c_CopyKI k), .call (c_copyJI ⟨pl, 3, nx⟩)] ?_; refine ed_hide ?_; intro K_ hK_; repeat' (first | ((first | refine ed_call3 ?_ | refine ed_sure3 ?_ | refine ed_cons3 ?_); refine ed_hide ?_; intro K_ hK_; (try dsimp only [c_CopyKI, c_backN, c_can, c_copyJI, c_phases]); (try refine nrmE ?_)) | (refine ed_nil ?_; (repeat subst hK_); dsimp only; refine Exists.intro _ (And.intro rfl (And.intro (by kernel_rfl) (And.intro ?_ ?_))); rotate_left; (try dsimp only [c_CopyKI, c_backN, c_can, c_copyJI, c_phases]); (try refine nrm ?_); rotate_right))) | (refine ar_drawS (id := 3) tt_ok (by kernel_rfl) [] ?_; refine ed_hide ?_; intro K_ hK_; repeat' (first | ((first | refine ed_call3 ?_ | refine ed_sure3 ?_ | refine ed_cons3 ?_); refine ed_hide ?_; intro K_ hK_; (try dsimp only [c_CopyKI, c_backN, c_can, c_copyJI, c_phases]); (try refine nrmE ?_)) | (refine ed_nil ?_; (repeat subst hK_); dsimp only; refine Exists.intro _ (And.intro rfl (And.intro (by kernel_rfl) (And.intro ?_ ?_))); rotate_left; (try dsimp only [c_CopyKI, c_backN, c_can, c_copyJI, c_phases]); (try refine nrm ?_); rotate_right))) | (refine ar_drawS (id := 4) tt_ok (by kernel_rfl) [.call (c_phases), .call (c_backN k ⟨pl, 3, nx⟩ k' j')] ?_; refine ed_hide ?_; intro K_ hK_; repeat' (first | ((first | refine ed_call3 ?_ | refine ed_sure3 ?_ | refine ed_cons3 ?_); refine ed_hide ?_; intro K_ hK_; (try dsimp only [c_CopyKI, c_backN, c_can, c_copyJI, c_phases]); (try refine nrmE ?_)) | (refine ed_nil ?_; (repeat subst hK_); dsimp only; refine Exists.intro _ (And.intro rfl (And.intro (by kernel_rfl) (And.intro ?_ ?_))); rotate_left; (try dsimp only [c_CopyKI, c_backN, c_can, c_copyJI, c_phases]); (try refine nrm ?_); rotate_right))) | (first | ((first | refine ar_region (id := 2) tt_ok (inps := [.call (c_can k ⟨pl, 3, nx⟩)]) rfl ?_ ?_ | refine ar_region tt_ok (inps := []) rfl ?_ ?_); rotate_left; (try dsimp only [c_CopyKI, c_backN, c_can, c_copyJI, c_phases]); (try refine nrm ?_); rotate_right) | refine ret3 ?_ | refine end3 ?_) | (refine ar_cond rfl trivial ?_ ?_ <;> intro hc_ <;> (try simp only [isNilI, inB, reduceCtorEq, cds] at hc_) <;> (try (first | contradiction | (exfalso; omega) | (exfalso; grind)))) | refine ar_until (And.intro ?_ (wk3 ?_)))
        all_goals (first | refine ar_id ?_ | (try (focus ((try refine nrmO ?_); (repeat' (first | exact True.intro | refine And.intro ?_ ?_)); all_goals (try (intro (hg_ : _ = true); (try simp only [isNilI, inB, reduceCtorEq, cds] at hg_); (repeat' (first | exact True.intro | refine And.intro ?_ ?_)))); all_goals (first | exact ob1 | exact hcp | exact hcj | exact hcan | exact fn_phases | exact fn_backN k ⟨pl, 3, nx⟩ k' j' hs hc hB h | skip)))))
        all_goals trace_state
    rw [if_neg (show ¬ (⟨pl, ph, nx⟩ : GJob).Phase = 3 from p3)] at h
    obtain ⟨rfl, rfl⟩ := Prod.mk.inj h
    by_cases p4 : ph = 4
    · subst p4
      refine fn_intro tt_ok Tryz.func32 rfl Tryz.call32 Tryz.ntmps32 Tryz.results32 rfl rfl rfl rfl ?_
      intro X ρ0 hb_ hgl_
      dsimp only [c_JStepI]
      try refine nrm ?_
      repeat' (refine ar_id ?_; first | refine st1 ?_ | (refine ar_drawS (id := 1) tt_ok (by kernel_rfl) [.call (c_CopyKI k), .call (c_copyJI ⟨pl, 4, nx⟩)] ?_; refine ed_hide ?_; intro K_ hK_; repeat' (first | ((first | refine ed_call3 ?_ | refine ed_sure3 ?_ | refine ed_cons3 ?_); refine ed_hide ?_; intro K_ hK_; (try dsimp only [c_CopyKI, c_can, c_copyJI, c_phases, c_stay]); (try refine nrmE ?_)) | (refine ed_nil ?_; (repeat subst hK_); dsimp only; refine Exists.intro _ (And.intro rfl (And.intro (by kernel_rfl) (And.intro ?_ ?_))); rotate_left; (try dsimp only [c_CopyKI, c_can, c_copyJI, c_phases, c_stay]); (try refine nrm ?_); rotate_right))) | (refine ar_drawS (id := 3) tt_ok (by kernel_rfl) [] ?_; refine ed_hide ?_; intro K_ hK_; repeat' (first | ((first | refine ed_call3 ?_ | refine ed_sure3 ?_ | refine ed_cons3 ?_); refine ed_hide ?_; intro K_ hK_; (try dsimp only [c_CopyKI, c_can, c_copyJI, c_phases, c_stay]); (try refine nrmE ?_)) | (refine ed_nil ?_; (repeat subst hK_); dsimp only; refine Exists.intro _ (And.intro rfl (And.intro (by kernel_rfl) (And.intro ?_ ?_))); rotate_left; (try dsimp only [c_CopyKI, c_can, c_copyJI, c_phases, c_stay]); (try refine nrm ?_); rotate_right))) | (refine ar_drawS (id := 4) tt_ok (by kernel_rfl) [.call (c_phases), .call (c_stay k ⟨pl, 4, nx⟩ ⟨pl, 4, nx⟩)] ?_; refine ed_hide ?_; intro K_ hK_; repeat' (first | ((first | refine ed_call3 ?_ | refine ed_sure3 ?_ | refine ed_cons3 ?_); refine ed_hide ?_; intro K_ hK_; (try dsimp only [c_CopyKI, c_can, c_copyJI, c_phases, c_stay]); (try refine nrmE ?_)) | (refine ed_nil ?_; (repeat subst hK_); dsimp only; refine Exists.intro _ (And.intro rfl (And.intro (by kernel_rfl) (And.intro ?_ ?_))); rotate_left; (try dsimp only [c_CopyKI, c_can, c_copyJI, c_phases, c_stay]); (try refine nrm ?_); rotate_right))) | (first | ((first | refine ar_region (id := 2) tt_ok (inps := [.call (c_can k ⟨pl, 4, nx⟩)]) rfl ?_ ?_ | refine ar_region tt_ok (inps := []) rfl ?_ ?_); rotate_left; (try dsimp only [c_CopyKI, c_can, c_copyJI, c_phases, c_stay]); (try refine nrm ?_); rotate_right) | refine ret3 ?_ | refine end3 ?_) | (refine ar_cond rfl trivial ?_ ?_ <;> intro hc_ <;> (try simp only [isNilI, inB, reduceCtorEq, cds] at hc_) <;> (try (first | contradiction | (exfalso; omega) | (exfalso; grind)))) | refine ar_until (And.intro ?_ (wk3 ?_)))
      all_goals (first | refine ar_id ?_ | (try (focus ((try refine nrmO ?_); (repeat' (first | exact True.intro | refine And.intro ?_ ?_)); all_goals (try (intro (hg_ : _ = true); (try simp only [isNilI, inB, reduceCtorEq, cds] at hg_); (repeat' (first | exact True.intro | refine And.intro ?_ ?_)))); all_goals (first | exact ob1 | exact hcp | exact hcj | exact hcan | exact fn_phases | exact fn_stay k ⟨pl, 4, nx⟩ | skip)))))
      all_goals trace_state
    · obtain rfl : ph = 5 := by have h1 : 0 ≤ ph := hph.1; have h2 : ph ≤ 5 := hph.2; omega
      refine fn_intro tt_ok Tryz.func32 rfl Tryz.call32 Tryz.ntmps32 Tryz.results32 rfl rfl rfl rfl ?_
      intro X ρ0 hb_ hgl_
      dsimp only [c_JStepI]
      try refine nrm ?_
      repeat' (refine ar_id ?_; first | refine st1 ?_ | (refine ar_drawS (id := 1) tt_ok (by kernel_rfl) [.call (c_CopyKI k), .call (c_copyJI ⟨pl, 5, nx⟩)] ?_; refine ed_hide ?_; intro K_ hK_; repeat' (first | ((first | refine ed_call3 ?_ | refine ed_sure3 ?_ | refine ed_cons3 ?_); refine ed_hide ?_; intro K_ hK_; (try dsimp only [c_CopyKI, c_can, c_copyJI, c_phases, c_stay]); (try refine nrmE ?_)) | (refine ed_nil ?_; (repeat subst hK_); dsimp only; refine Exists.intro _ (And.intro rfl (And.intro (by kernel_rfl) (And.intro ?_ ?_))); rotate_left; (try dsimp only [c_CopyKI, c_can, c_copyJI, c_phases, c_stay]); (try refine nrm ?_); rotate_right))) | (refine ar_drawS (id := 3) tt_ok (by kernel_rfl) [] ?_; refine ed_hide ?_; intro K_ hK_; repeat' (first | ((first | refine ed_call3 ?_ | refine ed_sure3 ?_ | refine ed_cons3 ?_); refine ed_hide ?_; intro K_ hK_; (try dsimp only [c_CopyKI, c_can, c_copyJI, c_phases, c_stay]); (try refine nrmE ?_)) | (refine ed_nil ?_; (repeat subst hK_); dsimp only; refine Exists.intro _ (And.intro rfl (And.intro (by kernel_rfl) (And.intro ?_ ?_))); rotate_left; (try dsimp only [c_CopyKI, c_can, c_copyJI, c_phases, c_stay]); (try refine nrm ?_); rotate_right))) | (refine ar_drawS (id := 4) tt_ok (by kernel_rfl) [.call (c_phases), .call (c_stay k ⟨pl, 5, nx⟩ ⟨pl, 5, nx⟩)] ?_; refine ed_hide ?_; intro K_ hK_; repeat' (first | ((first | refine ed_call3 ?_ | refine ed_sure3 ?_ | refine ed_cons3 ?_); refine ed_hide ?_; intro K_ hK_; (try dsimp only [c_CopyKI, c_can, c_copyJI, c_phases, c_stay]); (try refine nrmE ?_)) | (refine ed_nil ?_; (repeat subst hK_); dsimp only; refine Exists.intro _ (And.intro rfl (And.intro (by kernel_rfl) (And.intro ?_ ?_))); rotate_left; (try dsimp only [c_CopyKI, c_can, c_copyJI, c_phases, c_stay]); (try refine nrm ?_); rotate_right))) | (first | ((first | refine ar_region (id := 2) tt_ok (inps := [.call (c_can k ⟨pl, 5, nx⟩)]) rfl ?_ ?_ | refine ar_region tt_ok (inps := []) rfl ?_ ?_); rotate_left; (try dsimp only [c_CopyKI, c_can, c_copyJI, c_phases, c_stay]); (try refine nrm ?_); rotate_right) | refine ret3 ?_ | refine end3 ?_) | (refine ar_cond rfl trivial ?_ ?_ <;> intro hc_ <;> (try simp only [isNilI, inB, reduceCtorEq, cds] at hc_) <;> (try (first | contradiction | (exfalso; omega) | (exfalso; grind)))) | refine ar_until (And.intro ?_ (wk3 ?_)))
      all_goals (first | refine ar_id ?_ | (try (focus ((try refine nrmO ?_); (repeat' (first | exact True.intro | refine And.intro ?_ ?_)); all_goals (try (intro (hg_ : _ = true); (try simp only [isNilI, inB, reduceCtorEq, cds] at hg_); (repeat' (first | exact True.intro | refine And.intro ?_ ?_)))); all_goals (first | exact ob1 | exact hcp | exact hcj | exact hcan | exact fn_phases | exact fn_stay k ⟨pl, 5, nx⟩ | skip)))))
      all_goals trace_state
  · rw [if_neg hm] at h
    obtain ⟨rfl, rfl⟩ := Prod.mk.inj h
    have hd : decide (mayJ k j) = false := decide_eq_false hm
    refine fn_intro tt_ok Tryz.func32 rfl Tryz.call32 Tryz.ntmps32 Tryz.results32 rfl rfl rfl rfl ?_
    intro X ρ0 hb_ hgl_
    dsimp only [c_JStepI]
    try refine nrm ?_
    repeat' (refine ar_id ?_; first | refine st1 ?_ | (refine ar_drawS (id := 1) tt_ok (by kernel_rfl) [.call (c_CopyKI k), .call (c_copyJI j)] ?_; refine ed_hide ?_; intro K_ hK_; repeat' (first | ((first | refine ed_call3 ?_ | refine ed_sure3 ?_ | refine ed_cons3 ?_); refine ed_hide ?_; intro K_ hK_; (try dsimp only [c_CopyKI, c_can, c_copyJI]); (try refine nrmE ?_)) | (refine ed_nil ?_; (repeat subst hK_); dsimp only; refine Exists.intro _ (And.intro rfl (And.intro (by kernel_rfl) (And.intro ?_ ?_))); rotate_left; (try dsimp only [c_CopyKI, c_can, c_copyJI]); (try refine nrm ?_); rotate_right))) | (refine ar_drawS (id := 3) tt_ok (by kernel_rfl) [] ?_; refine ed_hide ?_; intro K_ hK_; repeat' (first | ((first | refine ed_call3 ?_ | refine ed_sure3 ?_ | refine ed_cons3 ?_); refine ed_hide ?_; intro K_ hK_; (try dsimp only [c_CopyKI, c_can, c_copyJI]); (try refine nrmE ?_)) | (refine ed_nil ?_; (repeat subst hK_); dsimp only; refine Exists.intro _ (And.intro rfl (And.intro (by kernel_rfl) (And.intro ?_ ?_))); rotate_left; (try dsimp only [c_CopyKI, c_can, c_copyJI]); (try refine nrm ?_); rotate_right))) | (first | ((first | refine ar_region (id := 2) tt_ok (inps := [.call (c_can k j)]) rfl ?_ ?_ | refine ar_region tt_ok (inps := []) rfl ?_ ?_); rotate_left; (try dsimp only [c_CopyKI, c_can, c_copyJI]); (try refine nrm ?_); rotate_right) | refine ret3 ?_ | refine end3 ?_) | (refine ar_cond rfl trivial ?_ ?_ <;> intro hc_ <;> (try simp only [isNilI, inB, reduceCtorEq, cds] at hc_) <;> (try (first | contradiction | (exfalso; omega) | (exfalso; grind)))) | refine ar_until (And.intro ?_ (wk3 ?_)))
    all_goals (first | refine ar_id ?_ | (try (focus ((try refine nrmO ?_); (repeat' (first | exact True.intro | refine And.intro ?_ ?_)); all_goals (try (intro (hg_ : _ = true); (try simp only [isNilI, inB, reduceCtorEq, cds] at hg_); (repeat' (first | exact True.intro | refine And.intro ?_ ?_)))); all_goals (first | exact ob1 | exact hcp | exact fn_copyJI j hl | exact fn_can k j hs hl | skip)))))
    all_goals trace_state
end Eng
end Go.Proofs.YtlkkiopjknbomaaGreatDoor
namespace Go.Proofs.YtlkkiopjknbomaaGreatDoor
open Go.RowKit
set_option linter.unusedVariables false
set_option linter.unusedSimpArgs false
set_option maxRecDepth 100000
namespace Eng
open Tr
theorem zKerI : List.map CV.lit ti35.z.cells.toList = [.lit (.slice none 0 0), .lit (.slice none 0 0), .lit (.slice none 0 0), (CV.lit (.int .i64 (0))), .lit (.slice none 0 0)] := rfl
theorem zJobI : List.map CV.lit ti41.z.cells.toList = [(CV.lit (.int .i64 (0))), (CV.lit (.int .i64 (0))), .lit (.slice none 0 0), (CV.lit (.int .i64 (0))), (CV.lit (.int .i64 (0)))] := rfl
def c_JRunI (s : Se) (k : GKernel) (j : GJob) (most : Int) (k' : GKernel) (j' : GJob) : CFD := ⟨12, [.agg [ro 33 1 eIntS k.Machine.Frames.Cells, ro 4 1 Tr.eB k.Machine.Frames.Used, ro 45 2 eEntry k.Machine.Table.Entries, (CV.lit (.int .i64 (k.Calls))), ro 3 1 Tr.eI k.Refuse], .agg [(CV.lit (.int .i64 (j.Plan.Keep))), (CV.lit (.int .i64 (j.Plan.Move))), ro 3 1 Tr.eI j.Plan.Cells, (CV.lit (.int .i64 (j.Phase))), (CV.lit (.int .i64 (j.Next)))], (SV.one (.lit (.int .i64 (most))))], [], .tup [.agg [.hd 0, .hd 1, .hd 2, (CV.lit (.int .i64 ((k').Calls))), .hd 3], .agg [(CV.lit (.int .i64 ((j').Plan.Keep))), (CV.lit (.int .i64 ((j').Plan.Move))), .hd 4, (CV.lit (.int .i64 ((j').Phase))), (CV.lit (.int .i64 ((j').Next)))]], [(0, some (.row 33 1 ((k').Machine.Frames.Cells.map eIntS))), (1, some (.row 4 1 ((k').Machine.Frames.Used.map Tr.eB))), (2, some (.row 45 2 ((k').Machine.Table.Entries.map eEntry))), (3, some (.row 3 1 ((k').Refuse.map Tr.eI))), (4, some (.row 3 1 ((j').Plan.Cells.map Tr.eI)))], [0, 1, 2, 3, 4], s.gl⟩
set_option maxHeartbeats 8000000 in
theorem fn_JRunI (s : Se) (k : GKernel) (j : GJob) (most : Int) (k' : GKernel) (j' : GJob) (hs : szK8 k) (hl : j.Plan.Cells.length ≤ 1048576) (h : pJobRun k j most = (k', j')) : Fn Tryz.prog (c_JRunI s k j most k' j') := by
  have hcp := fn_CopyKI k (szK_from hs)
  unfold pJobRun at h
  by_cases hm : 0 ≤ most ∧ most ≤ 200
  · rw [if_pos hm] at h
    obtain ⟨N, rfl⟩ := Int.eq_ofNat_of_zero_le hm.1
    rw [Int.toNat_natCast] at h
    have hz := sz_run k j
    have hsucc : ∀ n, ¬ overJ (runJ n (k, j)).2 → pJobStep (runJ n (k, j)).1 (runJ n (k, j)).2 = ((runJ (n + 1) (k, j)).1, (runJ (n + 1) (k, j)).2) := fun n ho => by
      rw [runJ_succ]
      unfold pJobStep
      by_cases hx : mayJ (runJ n (k, j)).1 (runJ n (k, j)).2
      · rw [if_pos hx, if_pos ⟨ho, hx⟩]
      · rw [if_neg hx, if_neg (fun hh => hx hh.2)]
    have hstop := fun n (hn : n ≤ N) (hx : overJ (runJ n (k, j)).2) => (show runJ N (k, j) = runJ n (k, j) by
      have := runJ_add n (N - n) (k, j)
      rw [show n + (N - n) = N by omega] at this
      rw [this, runJ_stop (fun hh => hh.1 hx)])
    have h0 : runJ 0 (k, j) = (k, j) := rfl
    generalize hS : (fun n => runJ n (k, j)) = S
    have hSn : ∀ n, runJ n (k, j) = S n := fun n => by rw [← hS]
    simp only [hSn] at hz hsucc hstop h0 h
    refine fn_intro tt_ok Tryz.func12 rfl Tryz.call12 Tryz.ntmps12 Tryz.results12 rfl rfl rfl rfl ?_
    intro X ρ0 hb_ hgl_
    dsimp only [c_JRunI]
    try refine nrm ?_
    repeat' (refine ar_id ?_; first | refine st1 ?_ | (refine ar_drawS (id := 1) tt_ok (by kernel_rfl) [.call (c_CopyKI k), .call (c_copyJI j)] ?_; refine ed_hide ?_; intro K_ hK_; repeat' (first | ((first | refine ed_call3 ?_ | refine ed_sure3 ?_ | refine ed_cons3 ?_); refine ed_hide ?_; intro K_ hK_; (try dsimp only [c_CopyKI, c_copyJI]); (try refine nrmE ?_)) | (refine ed_nil ?_; (repeat subst hK_); dsimp only; refine Exists.intro _ (And.intro rfl (And.intro (by kernel_rfl) (And.intro ?_ ?_))); rotate_left; (try dsimp only [c_CopyKI, c_copyJI]); (try refine nrm ?_); rotate_right))) | (first | ((first | refine ar_region tt_ok (inps := []) rfl ?_ ?_); rotate_left; (try dsimp only [c_CopyKI, c_copyJI]); (try refine nrm ?_); rotate_right) | refine ret3 ?_ | refine end3 ?_) | (refine ar_cond rfl trivial ?_ ?_ <;> intro hc_ <;> (try simp only [isNilI, inB, reduceCtorEq, cds] at hc_) <;> (try (first | contradiction | (exfalso; omega)))) | refine ar_until (And.intro ?_ (wk3 ?_)))
    all_goals (first | refine ar_id ?_ | (try (focus ((try refine nrmO ?_); (repeat' (first | exact True.intro | refine And.intro ?_ ?_)); all_goals (try (intro (hg_ : _ = true); (try simp only [isNilI, inB, reduceCtorEq, cds] at hg_); (repeat' (first | exact True.intro | refine And.intro ?_ ?_)))); all_goals (first | exact ob1 | exact hcp | exact fn_copyJI j hl | skip)))))
    dsimp only [zKerI, zJobI]
    refine ar_keep 12583903 (by dsimp only [keepS] <;> exact rfl) ?_
    refine ar_forM (N) (fun n => True) (fun n => [(23, (TV.sv (.one (.lit (.int .i64 (n))))))]) (fun n => [(8, some (.box 35 [.hd 12000, .hd 12001, .hd 12002, (CV.lit (.int .i64 (((S n).1).Calls))), .hd 12003])), (12000, some (.row 33 1 (((S n).1).Machine.Frames.Cells.map eIntS))), (12001, some (.row 4 1 (((S n).1).Machine.Frames.Used.map Tr.eB))), (12002, some (.row 45 2 (((S n).1).Machine.Table.Entries.map eEntry))), (12003, some (.row 3 1 (((S n).1).Refuse.map Tr.eI))), (9, some (.box 41 [(CV.lit (.int .i64 (((S n).2).Plan.Keep))), (CV.lit (.int .i64 (((S n).2).Plan.Move))), .hd 14000, (CV.lit (.int .i64 (((S n).2).Phase))), (CV.lit (.int .i64 (((S n).2).Next)))])), (14000, some (.row 3 1 (((S n).2).Plan.Cells.map Tr.eI)))]) ?_ ?_ ?_
    rotate_left
    · first | trivial | simp
    (dsimp only [rnCap, capSVs, Int.toNat_natCast, ro, Nat.reduceAdd, Nat.reduceMul, Nat.zero_add, List.map, putT, app, wrapG, gOb, argT, keys, slotOf, dropped, gAnd, wB, rnT, rnS, rnC, rnCs, rnSs, rnM, rnB, rnN, rn, lk, St.over, ded, delL, keepT, menT, menSs, menS, menCs, menC, hasN, resT, SV.cells]; refine wk3 ?_; (focus ((try refine nrmO ?_); (repeat' (first | exact True.intro | refine And.intro ?_ ?_)); all_goals (try (intro (hg_ : _ = true); (try simp only [isNilI, inB, reduceCtorEq, cds] at hg_); (repeat' (first | exact True.intro | refine And.intro ?_ ?_)))); all_goals (first | exact ob1 | exact rfl | skip))))
    rotate_right
    intro n hn_ hnI_
    dsimp only [rnCap, capSVs, Int.toNat_natCast, ro, Nat.reduceAdd, Nat.reduceMul, Nat.zero_add, List.map, putT, app, wrapG, gOb, argT, keys, slotOf, dropped, gAnd, wB, rnT, rnS, rnC, rnCs, rnSs, rnM, rnB, rnN, rn, lk, St.over, ded, delL, keepT, menT, menSs, menS, menCs, menC, hasN, resT, SV.cells]
    obtain ⟨z1, z2, z3⟩ := hz n
    have hfin : ((N : Int) ≤ (n : Int)) → S n = (k', j') := fun hc => by rw [← h, show n = N by omega]
    have hfin2 : overJ (S n).2 → S n = (k', j') := fun hc => by rw [← h, hstop n (by omega) hc]
    have hsn := szK8_same hs z1 z2
    have hln : (S n).2.Plan.Cells.length ≤ 1048576 := by rw [z3]; exact hl
    by_cases hR : overJ (S n).2
    · have hd : decide (overJ (S n).2) = true := decide_eq_true hR
      repeat' (refine ar_id ?_; first | refine st1 ?_ | (refine ar_drawS (id := 9) tt_ok (by kernel_rfl) [] ?_; refine ed_hide ?_; intro K_ hK_; repeat' (first | ((first | refine ed_call3 ?_ | refine ed_sure3 ?_ | refine ed_cons3 ?_); refine ed_hide ?_; intro K_ hK_; (try dsimp only [c_OverI]); (try refine nrmE ?_)) | (refine ed_nil ?_; (repeat subst hK_); dsimp only; refine Exists.intro _ (And.intro rfl (And.intro (by kernel_rfl) (And.intro ?_ ?_))); rotate_left; (try dsimp only [c_OverI]); (try refine nrm ?_); rotate_right))) | (first | ((first | refine ar_region (id := 6) tt_ok (inps := [.call (c_OverI (S n).2)]) rfl ?_ ?_ | refine ar_region tt_ok (inps := []) rfl ?_ ?_); rotate_left; (try dsimp only [c_OverI]); (try refine nrm ?_); rotate_right) | refine ret3 ?_ | refine end3 ?_) | (refine ar_cond rfl trivial ?_ ?_ <;> intro hc_ <;> (try simp only [isNilI, inB, reduceCtorEq, cds] at hc_) <;> (try (first | contradiction | (exfalso; omega) | (exfalso; grind)))) | refine ar_until (And.intro ?_ (wk3 ?_)))
      all_goals (first | refine ar_id ?_ | (try (focus ((try refine nrmO ?_); (repeat' (first | exact True.intro | refine And.intro ?_ ?_)); all_goals (try (intro (hg_ : _ = true); (try simp only [isNilI, inB, reduceCtorEq, cds] at hg_); (repeat' (first | exact True.intro | refine And.intro ?_ ?_)))); all_goals (first | exact ob1 | exact fn_OverI _ | skip)))))
      all_goals first | (rw [hfin hc_]; done) | (rw [hfin2 hc_]; done)
    · have hd : decide (overJ (S n).2) = false := decide_eq_false hR
      repeat' (refine ar_id ?_; first | refine st1 ?_ | (refine ar_drawS (id := 9) tt_ok (by kernel_rfl) [] ?_; refine ed_hide ?_; intro K_ hK_; repeat' (first | ((first | refine ed_call3 ?_ | refine ed_sure3 ?_ | refine ed_cons3 ?_); refine ed_hide ?_; intro K_ hK_; (try dsimp only [c_JStepI, c_OverI]); (try refine nrmE ?_)) | (refine ed_nil ?_; (repeat subst hK_); dsimp only; refine Exists.intro _ (And.intro rfl (And.intro (by kernel_rfl) (And.intro ?_ ?_))); rotate_left; (try dsimp only [c_JStepI, c_OverI]); (try refine nrm ?_); rotate_right))) | (first | ((first | refine ar_region (id := 6) tt_ok (inps := [.call (c_OverI (S n).2)]) rfl ?_ ?_ | refine ar_region (id := 7) tt_ok (inps := [.call (c_JStepI s (S n).1 (S n).2 (S (n + 1)).1 (S (n + 1)).2)]) rfl ?_ ?_ | refine ar_region tt_ok (inps := []) rfl ?_ ?_); rotate_left; (try dsimp only [c_JStepI, c_OverI]); (try refine nrm ?_); rotate_right) | refine ret3 ?_ | refine end3 ?_) | (refine ar_cond rfl trivial ?_ ?_ <;> intro hc_ <;> (try simp only [isNilI, inB, reduceCtorEq, cds] at hc_) <;> (try (first | contradiction | (exfalso; omega) | (exfalso; grind)))) | refine ar_until (And.intro ?_ (wk3 ?_)))
      all_goals (first | refine ar_id ?_ | (try (focus ((try refine nrmO ?_); (repeat' (first | exact True.intro | refine And.intro ?_ ?_)); all_goals (try (intro (hg_ : _ = true); (try simp only [isNilI, inB, reduceCtorEq, cds] at hg_); (repeat' (first | exact True.intro | refine And.intro ?_ ?_)))); all_goals (first | exact ob1 | exact fn_OverI _ | exact fn_JStepI s _ _ _ _ hsn hln (hsucc n hR) | exact hgl_.1 | exact hgl_.2.1 | exact hgl_.2.2.1 | exact hgl_.2.2.2.1 | exact hgl_.2.2.2.2.1 | exact hgl_.2.2.2.2.2.1 | exact hgl_.2.2.2.2.2.2.1 | exact hgl_.2.2.2.2.2.2.2.1 | exact hgl_ | exact rfl | exact one1 rfl | skip)))))
      all_goals first | (rw [hfin hc_]; done) | (rw [hfin2 hc_]; done)
    all_goals (rw [h0])
  · rw [if_neg hm] at h
    obtain ⟨rfl, rfl⟩ := Prod.mk.inj h
    refine fn_intro tt_ok Tryz.func12 rfl Tryz.call12 Tryz.ntmps12 Tryz.results12 rfl rfl rfl rfl ?_
    intro X ρ0 hb_ hgl_
    dsimp only [c_JRunI]
    try refine nrm ?_
    repeat' (refine ar_id ?_; first | refine st1 ?_ | (refine ar_drawS (id := 1) tt_ok (by kernel_rfl) [.call (c_CopyKI k), .call (c_copyJI j)] ?_; refine ed_hide ?_; intro K_ hK_; repeat' (first | ((first | refine ed_call3 ?_ | refine ed_sure3 ?_ | refine ed_cons3 ?_); refine ed_hide ?_; intro K_ hK_; (try dsimp only [c_CopyKI, c_copyJI]); (try refine nrmE ?_)) | (refine ed_nil ?_; (repeat subst hK_); dsimp only; refine Exists.intro _ (And.intro rfl (And.intro (by kernel_rfl) (And.intro ?_ ?_))); rotate_left; (try dsimp only [c_CopyKI, c_copyJI]); (try refine nrm ?_); rotate_right))) | (refine ar_drawS (id := 3) tt_ok (by kernel_rfl) [] ?_; refine ed_hide ?_; intro K_ hK_; repeat' (first | ((first | refine ed_call3 ?_ | refine ed_sure3 ?_ | refine ed_cons3 ?_); refine ed_hide ?_; intro K_ hK_; (try dsimp only [c_CopyKI, c_copyJI]); (try refine nrmE ?_)) | (refine ed_nil ?_; (repeat subst hK_); dsimp only; refine Exists.intro _ (And.intro rfl (And.intro (by kernel_rfl) (And.intro ?_ ?_))); rotate_left; (try dsimp only [c_CopyKI, c_copyJI]); (try refine nrm ?_); rotate_right))) | (first | ((first | refine ar_region tt_ok (inps := []) rfl ?_ ?_); rotate_left; (try dsimp only [c_CopyKI, c_copyJI]); (try refine nrm ?_); rotate_right) | refine ret3 ?_ | refine end3 ?_) | (refine ar_cond rfl trivial ?_ ?_ <;> intro hc_ <;> (try simp only [isNilI, inB, reduceCtorEq, cds] at hc_) <;> (try (first | contradiction | (exfalso; omega) | (exfalso; exact hm ⟨by omega, by omega⟩)))) | refine ar_until (And.intro ?_ (wk3 ?_)))
    all_goals (first | refine ar_id ?_ | (try (focus ((try refine nrmO ?_); (repeat' (first | exact True.intro | refine And.intro ?_ ?_)); all_goals (try (intro (hg_ : _ = true); (try simp only [isNilI, inB, reduceCtorEq, cds] at hg_); (repeat' (first | exact True.intro | refine And.intro ?_ ?_)))); all_goals (first | exact ob1 | exact hcp | exact fn_copyJI j hl | skip)))))
    all_goals trace_state
end Eng
end Go.Proofs.YtlkkiopjknbomaaGreatDoor
namespace Go.Proofs.YtlkkiopjknbomaaGreatDoor
open Go.RowKit
set_option linter.unusedVariables false
namespace Eng
open Tr
theorem okF_sz {f : GFrames} (h : okF f) : f.Cells.length ≤ 32 ∧ f.Used.length ≤ 32 ∧ ∀ r ∈ f.Cells, r.length ≤ 16 := by
  refine ⟨h.1.2, by have := h.1.2; have := h.2.1; omega, fun r hr => ?_⟩
  obtain ⟨i, hi⟩ := List.getElem?_of_mem hr
  have hl := (List.getElem?_eq_some_iff.1 hi).1
  have hu : f.Used[i]? = some (f.Used.getD i false) := getD_at (by have := h.2.1; omega)
  have := h.2.2 _ (List.mem_of_getElem? (zip_at hi hu))
  have := this.1
  show r.length ≤ 16
  simp only at this
  omega
end Eng
end Go.Proofs.YtlkkiopjknbomaaGreatDoor
namespace Go.Proofs.YtlkkiopjknbomaaGreatDoor
open Go.RowKit
set_option linter.unusedVariables false
set_option maxRecDepth 100000
namespace Eng
open Tr
theorem gl_at {w : World} {g : Nat} {cs : List Value} {T : Nat} (h : w.heap[g]? = some (.cells cs.toArray T (0, 0))) : GlX (cxOf w) ⟨g, cs, T, (0, 0)⟩ := ⟨h, LaidS.lt_of h⟩
theorem gl_arr {w : World} {g : Nat} {c : Array Value} {T : Nat} (h : w.heap[g]? = some (.cells c T (0, 0))) : GlX (cxOf w) ⟨g, c.toList, T, (0, 0)⟩ := gl_at (by rw [Array.toArray_toList]; exact h)
theorem se3 {w : World} (h : LaidS.At 203 [0, 1, 2] w) : ∃ s : Se, GlAll (GlX (cxOf w)) s.gl := by
  obtain ⟨xs, h1, h2, h3⟩ := h
  match xs, h1, h2 with
  | [a, b, c], _, h2 =>
    obtain ⟨⟨t1, k1⟩, c1, u1, l1⟩ := h3 0 _ a rfl rfl
    obtain ⟨⟨t2, k2⟩, c2, u2, l2⟩ := h3 1 _ b rfl rfl
    obtain ⟨⟨t3, k3⟩, c3, u3, l3⟩ := h3 2 _ c rfl rfl
    simp only [List.nodup_cons, List.mem_cons, List.not_mem_nil, or_false, not_or] at h2
    exact ⟨⟨a, b, c, c1.toList, c2.toList, c3.toList, u1, u2, u3, t1, t2, t3, h2.1.1, h2.1.2, h2.2.1⟩, gl_at k1, gl_at k2, gl_at k3, gl_arr l1, gl_arr l2, gl_arr l3, trivial⟩
end Eng
end Go.Proofs.YtlkkiopjknbomaaGreatDoor
namespace Go.Proofs.YtlkkiopjknbomaaGreatDoor
open Go.RowKit
set_option linter.unusedVariables false
set_option linter.unusedSimpArgs false
namespace Eng
open Tr
theorem cnt_le {n : Nat} : ∀ {l : List (List Int)}, (∀ r ∈ l, r.length ≤ n) → cntII l ≤ l.length * n
  | [], _ => Nat.zero_le _
  | r :: l, h => by
    have h1 := h r (List.mem_cons_self ..)
    have h2 := cnt_le (l := l) fun x hx => h x (List.mem_cons_of_mem _ hx)
    show r.length + cntII l ≤ (l.length + 1) * n
    rw [Nat.succ_mul]
    omega
theorem n_res {k k' : GKernel} (hn : nK k ≤ 1048576) (hs : sameSz k.Machine k'.Machine) (hr : k'.Refuse = k.Refuse) (h : k' = k ∨ okK k) : nK k' ≤ 1048576 := by
  rcases h with rfl | h
  · exact hn
  · obtain ⟨h1, h2, h3⟩ := okF_sz h.1.1
    have h4 := h.2.2.2
    have h5 := h.1.2.1
    unfold pTableOk at h5
    have h6 := (of_decide_eq_true h5).2.2
    have h7 := cnt_le (hs.r 16 (Nat.le_refl _) h3)
    have c1 := hs.c
    have c2 := hs.u
    have c3 := hs.e
    unfold nK nM nF nT
    rw [hr]
    omega
theorem szK8_sm {k : GKernel} (h : smK k) : szK8 k := ⟨⟨h.hMachine.hFrames.hCells.1, h.hMachine.hFrames.hUsed, h.hMachine.hFrames.hCells.2, h.hMachine.hTable.hEntries⟩, h.hRefuse⟩
theorem step_facts {k k' : GKernel} {j j' : GJob} (h : pJobStep k j = (k', j')) : sameSz k.Machine k'.Machine ∧ k'.Refuse = k.Refuse ∧ j'.Plan = j.Plan ∧ (k' = k ∨ okK k) := by
  unfold pJobStep at h
  split at h
  · rename_i hm
    have := sz_step k j
    rw [h] at this
    exact ⟨this.1, this.2.1, this.2.2, .inr hm.1.1⟩
  · obtain ⟨rfl, rfl⟩ := Prod.mk.inj h
    exact ⟨sameSz.refl _, rfl, rfl, .inl rfl⟩
theorem run_facts {k k' : GKernel} {j j' : GJob} {most : Int} (h : pJobRun k j most = (k', j')) : sameSz k.Machine k'.Machine ∧ k'.Refuse = k.Refuse ∧ j'.Plan = j.Plan ∧ (k' = k ∨ okK k) := by
  unfold pJobRun at h
  split at h
  · have := sz_run k j most.toNat
    rw [h] at this
    refine ⟨this.1, this.2.1, this.2.2, ?_⟩
    by_cases hm : mayJ k j
    · exact .inr hm.1.1
    · rw [runJ_stop (fun hh => hm hh.2)] at h
      exact .inl (Prod.mk.inj h).1.symm
  · obtain ⟨rfl, rfl⟩ := Prod.mk.inj h
    exact ⟨sameSz.refl _, rfl, rfl, .inl rfl⟩
theorem fn_LJobStep (s : Se) (x0 : GKernel) (x1 : GJob) (hm0 : mxK x0) (hm1 : mxJ x1) : Fn Tryz.prog (c_XJobStep s.gl x0 x1) := by
  obtain ⟨r, hr⟩ : ∃ r, pJobStep x0 x1 = r := ⟨_, rfl⟩
  obtain ⟨k', j'⟩ := r
  refine fn_XJobStep s.gl x0 x1 k' j' hm0 hm1 (fun hn => ?_)
  have hs0 : smK x0 := K_sm (by omega)
  have hs1 : smJ x1 := J_sm (by omega)
  obtain ⟨z1, z2, z3, z4⟩ := step_facts hr
  have hk := n_res (by omega) z1 z2 z4
  have hj : nJ j' ≤ 1048576 := by unfold nJ; rw [z3]; show nJ x1 ≤ _; omega
  have c1 := K_cn k'
  have c2 := J_cn j'
  exact ⟨K_sm hk, J_sm hj, by omega, fn_JStepS x0 x1 k' j' (szK8_sm hs0) hs1.hPlan.hCells hr, fn_JStepI s x0 x1 k' j' (szK8_sm hs0) hs1.hPlan.hCells hr⟩
theorem fn_LJobRun (s : Se) (x0 : GKernel) (x1 : GJob) (x2 : Int) (hm0 : mxK x0) (hm1 : mxJ x1) : Fn Tryz.prog (c_XJobRun s.gl x0 x1 x2) := by
  obtain ⟨r, hr⟩ : ∃ r, pJobRun x0 x1 x2 = r := ⟨_, rfl⟩
  obtain ⟨k', j'⟩ := r
  refine fn_XJobRun s.gl x0 x1 x2 k' j' hm0 hm1 (fun hn => ?_)
  have hs0 : smK x0 := K_sm (by omega)
  have hs1 : smJ x1 := J_sm (by omega)
  obtain ⟨z1, z2, z3, z4⟩ := run_facts hr
  have hk := n_res (by omega) z1 z2 z4
  have hj : nJ j' ≤ 1048576 := by unfold nJ; rw [z3]; show nJ x1 ≤ _; omega
  have c1 := K_cn k'
  have c2 := J_cn j'
  exact ⟨K_sm hk, J_sm hj, by omega, fn_JRunS x0 x1 x2 k' j' (szK8_sm hs0) hs1.hPlan.hCells hr, fn_JRunI s x0 x1 x2 k' j' (szK8_sm hs0) hs1.hPlan.hCells hr⟩
end Eng
end Go.Proofs.YtlkkiopjknbomaaGreatDoor
namespace Go.Proofs.YtlkkiopjknbomaaGreatDoor
open Go.RowKit Go.ChangeShapes Go.WideShapes
namespace Tr
section
variable {H : Type} {enc : TypeId × Value → H} {w : World} {base : Nat} {spare : Nat → Bool} {held : Bool}
def okBoolS (l : List Bool) : Prop := ∀ x ∈ l, (fun _ => True) x
theorem opens_BoolS : Opens enc Tryz.prog w base spare held 25 eBoolS okBoolS := opens_slice Tryz.underlying25 (by kernel_rfl) (fun _ => rfl) (opens_bool Tryz.underlying4)
def okEntry (x : GEntry) : Prop := okI x.Mode ∧ okI x.Frame
theorem cells_Entry : Tryz.prog.cellsOf 188 = 2 := by kernel_rfl
set_option maxRecDepth 100000 in
theorem opens_Entry : Opens enc Tryz.prog w base spare held 188 eEntry okEntry := by
  intro fuel cs x h
  obtain ⟨ys, n, _, _, hl, hyl, hf⟩ := DataW.trod_struct Tryz.underlying188 h
  rw [cells_Entry] at hl
  match cs, hl, ys, hyl with
  | [c0, c1], _, [y0, y1], _ =>
  have h0 : DataW.trod enc Tryz.prog w base spare held n 3 ([c0, c1].drop 0 |>.take (Tryz.prog.cellsOf 3)) = some y0 := hf 0 _ rfl
  rw [show Tryz.prog.cellsOf 3 = 1 by kernel_rfl] at h0
  obtain ⟨a0, r0, k0⟩ := (opens_int Tryz.underlying3) _ _ _ h0
  have h1 : DataW.trod enc Tryz.prog w base spare held n 3 ([c0, c1].drop 1 |>.take (Tryz.prog.cellsOf 3)) = some y1 := hf 1 _ rfl
  rw [show Tryz.prog.cellsOf 3 = 1 by kernel_rfl] at h1
  obtain ⟨a1, r1, k1⟩ := (opens_int Tryz.underlying3) _ _ _ h1
  refine ⟨⟨a0, a1⟩, ?_, ⟨k0, k1⟩⟩
  exact (raw_app _ _).2 ⟨[c0], [c1], rfl, r0, r1⟩
def okEntryS (l : List GEntry) : Prop := ∀ x ∈ l, okEntry x
theorem opens_EntryS : Opens enc Tryz.prog w base spare held 61 eEntryS okEntryS := opens_slice Tryz.underlying61 (by kernel_rfl) (fun _ => rfl) opens_Entry
def okIntS (l : List Int) : Prop := ∀ x ∈ l, okI x
theorem opens_IntS : Opens enc Tryz.prog w base spare held 33 eIntS okIntS := opens_slice Tryz.underlying33 (by kernel_rfl) (fun _ => rfl) (opens_int Tryz.underlying3)
def okIntSS (l : List (List Int)) : Prop := ∀ x ∈ l, okIntS x
theorem opens_IntSS : Opens enc Tryz.prog w base spare held 24 eIntSS okIntSS := opens_slice Tryz.underlying24 (by kernel_rfl) (fun _ => rfl) opens_IntS
def okFrames (x : GFrames) : Prop := okIntSS x.Cells ∧ okBoolS x.Used
theorem cells_Frames : Tryz.prog.cellsOf 60 = 2 := by kernel_rfl
set_option maxRecDepth 100000 in
theorem opens_Frames : Opens enc Tryz.prog w base spare held 60 eFrames okFrames := by
  intro fuel cs x h
  obtain ⟨ys, n, _, _, hl, hyl, hf⟩ := DataW.trod_struct Tryz.underlying60 h
  rw [cells_Frames] at hl
  match cs, hl, ys, hyl with
  | [c0, c1], _, [y0, y1], _ =>
  have h0 : DataW.trod enc Tryz.prog w base spare held n 24 ([c0, c1].drop 0 |>.take (Tryz.prog.cellsOf 24)) = some y0 := hf 0 _ rfl
  rw [show Tryz.prog.cellsOf 24 = 1 by kernel_rfl] at h0
  obtain ⟨a0, r0, k0⟩ := opens_IntSS _ _ _ h0
  have h1 : DataW.trod enc Tryz.prog w base spare held n 25 ([c0, c1].drop 1 |>.take (Tryz.prog.cellsOf 25)) = some y1 := hf 1 _ rfl
  rw [show Tryz.prog.cellsOf 25 = 1 by kernel_rfl] at h1
  obtain ⟨a1, r1, k1⟩ := opens_BoolS _ _ _ h1
  refine ⟨⟨a0, a1⟩, ?_, ⟨k0, k1⟩⟩
  exact (raw_app _ _).2 ⟨[c0], [c1], rfl, r0, r1⟩
def okPlan (x : GPlan) : Prop := okI x.Keep ∧ okI x.Move ∧ okIntS x.Cells
theorem cells_Plan : Tryz.prog.cellsOf 68 = 3 := by kernel_rfl
set_option maxRecDepth 100000 in
theorem opens_Plan : Opens enc Tryz.prog w base spare held 68 ePlan okPlan := by
  intro fuel cs x h
  obtain ⟨ys, n, _, _, hl, hyl, hf⟩ := DataW.trod_struct Tryz.underlying68 h
  rw [cells_Plan] at hl
  match cs, hl, ys, hyl with
  | [c0, c1, c2], _, [y0, y1, y2], _ =>
  have h0 : DataW.trod enc Tryz.prog w base spare held n 3 ([c0, c1, c2].drop 0 |>.take (Tryz.prog.cellsOf 3)) = some y0 := hf 0 _ rfl
  rw [show Tryz.prog.cellsOf 3 = 1 by kernel_rfl] at h0
  obtain ⟨a0, r0, k0⟩ := (opens_int Tryz.underlying3) _ _ _ h0
  have h1 : DataW.trod enc Tryz.prog w base spare held n 3 ([c0, c1, c2].drop 1 |>.take (Tryz.prog.cellsOf 3)) = some y1 := hf 1 _ rfl
  rw [show Tryz.prog.cellsOf 3 = 1 by kernel_rfl] at h1
  obtain ⟨a1, r1, k1⟩ := (opens_int Tryz.underlying3) _ _ _ h1
  have h2 : DataW.trod enc Tryz.prog w base spare held n 33 ([c0, c1, c2].drop 2 |>.take (Tryz.prog.cellsOf 33)) = some y2 := hf 2 _ rfl
  rw [show Tryz.prog.cellsOf 33 = 1 by kernel_rfl] at h2
  obtain ⟨a2, r2, k2⟩ := opens_IntS _ _ _ h2
  refine ⟨⟨a0, a1, a2⟩, ?_, ⟨k0, k1, k2⟩⟩
  exact (raw_app _ _).2 ⟨[c0], [c1, c2], rfl, r0, (raw_app _ _).2 ⟨[c1], [c2], rfl, r1, r2⟩⟩
def okJob (x : GJob) : Prop := okPlan x.Plan ∧ okI x.Phase ∧ okI x.Next
theorem cells_Job : Tryz.prog.cellsOf 70 = 5 := by kernel_rfl
set_option maxRecDepth 100000 in
theorem opens_Job : Opens enc Tryz.prog w base spare held 70 eJob okJob := by
  intro fuel cs x h
  obtain ⟨ys, n, _, _, hl, hyl, hf⟩ := DataW.trod_struct Tryz.underlying70 h
  rw [cells_Job] at hl
  match cs, hl, ys, hyl with
  | [c0, c1, c2, c3, c4], _, [y0, y1, y2], _ =>
  have h0 : DataW.trod enc Tryz.prog w base spare held n 68 ([c0, c1, c2, c3, c4].drop 0 |>.take (Tryz.prog.cellsOf 68)) = some y0 := hf 0 _ rfl
  rw [show Tryz.prog.cellsOf 68 = 3 by kernel_rfl] at h0
  obtain ⟨a0, r0, k0⟩ := opens_Plan _ _ _ h0
  have h1 : DataW.trod enc Tryz.prog w base spare held n 3 ([c0, c1, c2, c3, c4].drop 3 |>.take (Tryz.prog.cellsOf 3)) = some y1 := hf 1 _ rfl
  rw [show Tryz.prog.cellsOf 3 = 1 by kernel_rfl] at h1
  obtain ⟨a1, r1, k1⟩ := (opens_int Tryz.underlying3) _ _ _ h1
  have h2 : DataW.trod enc Tryz.prog w base spare held n 3 ([c0, c1, c2, c3, c4].drop 4 |>.take (Tryz.prog.cellsOf 3)) = some y2 := hf 2 _ rfl
  rw [show Tryz.prog.cellsOf 3 = 1 by kernel_rfl] at h2
  obtain ⟨a2, r2, k2⟩ := (opens_int Tryz.underlying3) _ _ _ h2
  refine ⟨⟨a0, a1, a2⟩, ?_, ⟨k0, k1, k2⟩⟩
  exact (raw_app _ _).2 ⟨[c0, c1, c2], [c3, c4], rfl, r0, (raw_app _ _).2 ⟨[c3], [c4], rfl, r1, r2⟩⟩
def okTable (x : GTable) : Prop := okEntryS x.Entries
theorem cells_Table : Tryz.prog.cellsOf 63 = 1 := by kernel_rfl
set_option maxRecDepth 100000 in
theorem opens_Table : Opens enc Tryz.prog w base spare held 63 eTable okTable := by
  intro fuel cs x h
  obtain ⟨ys, n, _, _, hl, hyl, hf⟩ := DataW.trod_struct Tryz.underlying63 h
  rw [cells_Table] at hl
  match cs, hl, ys, hyl with
  | [c0], _, [y0], _ =>
  have h0 : DataW.trod enc Tryz.prog w base spare held n 61 ([c0].drop 0 |>.take (Tryz.prog.cellsOf 61)) = some y0 := hf 0 _ rfl
  rw [show Tryz.prog.cellsOf 61 = 1 by kernel_rfl] at h0
  obtain ⟨a0, r0, k0⟩ := opens_EntryS _ _ _ h0
  refine ⟨⟨a0⟩, ?_, k0⟩
  exact r0
def okMachine (x : GMachine) : Prop := okFrames x.Frames ∧ okTable x.Table
theorem cells_Machine : Tryz.prog.cellsOf 65 = 3 := by kernel_rfl
set_option maxRecDepth 100000 in
theorem opens_Machine : Opens enc Tryz.prog w base spare held 65 eMachine okMachine := by
  intro fuel cs x h
  obtain ⟨ys, n, _, _, hl, hyl, hf⟩ := DataW.trod_struct Tryz.underlying65 h
  rw [cells_Machine] at hl
  match cs, hl, ys, hyl with
  | [c0, c1, c2], _, [y0, y1], _ =>
  have h0 : DataW.trod enc Tryz.prog w base spare held n 60 ([c0, c1, c2].drop 0 |>.take (Tryz.prog.cellsOf 60)) = some y0 := hf 0 _ rfl
  rw [show Tryz.prog.cellsOf 60 = 2 by kernel_rfl] at h0
  obtain ⟨a0, r0, k0⟩ := opens_Frames _ _ _ h0
  have h1 : DataW.trod enc Tryz.prog w base spare held n 63 ([c0, c1, c2].drop 2 |>.take (Tryz.prog.cellsOf 63)) = some y1 := hf 1 _ rfl
  rw [show Tryz.prog.cellsOf 63 = 1 by kernel_rfl] at h1
  obtain ⟨a1, r1, k1⟩ := opens_Table _ _ _ h1
  refine ⟨⟨a0, a1⟩, ?_, ⟨k0, k1⟩⟩
  exact (raw_app _ _).2 ⟨[c0, c1], [c2], rfl, r0, r1⟩
def okKernel (x : GKernel) : Prop := okMachine x.Machine ∧ okI x.Calls ∧ okIntS x.Refuse
theorem cells_Kernel : Tryz.prog.cellsOf 67 = 5 := by kernel_rfl
set_option maxRecDepth 100000 in
theorem opens_Kernel : Opens enc Tryz.prog w base spare held 67 eKernel okKernel := by
  intro fuel cs x h
  obtain ⟨ys, n, _, _, hl, hyl, hf⟩ := DataW.trod_struct Tryz.underlying67 h
  rw [cells_Kernel] at hl
  match cs, hl, ys, hyl with
  | [c0, c1, c2, c3, c4], _, [y0, y1, y2], _ =>
  have h0 : DataW.trod enc Tryz.prog w base spare held n 65 ([c0, c1, c2, c3, c4].drop 0 |>.take (Tryz.prog.cellsOf 65)) = some y0 := hf 0 _ rfl
  rw [show Tryz.prog.cellsOf 65 = 3 by kernel_rfl] at h0
  obtain ⟨a0, r0, k0⟩ := opens_Machine _ _ _ h0
  have h1 : DataW.trod enc Tryz.prog w base spare held n 3 ([c0, c1, c2, c3, c4].drop 3 |>.take (Tryz.prog.cellsOf 3)) = some y1 := hf 1 _ rfl
  rw [show Tryz.prog.cellsOf 3 = 1 by kernel_rfl] at h1
  obtain ⟨a1, r1, k1⟩ := (opens_int Tryz.underlying3) _ _ _ h1
  have h2 : DataW.trod enc Tryz.prog w base spare held n 33 ([c0, c1, c2, c3, c4].drop 4 |>.take (Tryz.prog.cellsOf 33)) = some y2 := hf 2 _ rfl
  rw [show Tryz.prog.cellsOf 33 = 1 by kernel_rfl] at h2
  obtain ⟨a2, r2, k2⟩ := opens_IntS _ _ _ h2
  refine ⟨⟨a0, a1, a2⟩, ?_, ⟨k0, k1, k2⟩⟩
  exact (raw_app _ _).2 ⟨[c0, c1, c2], [c3, c4], rfl, r0, (raw_app _ _).2 ⟨[c3], [c4], rfl, r1, r2⟩⟩
end
end Tr
end Go.Proofs.YtlkkiopjknbomaaGreatDoor

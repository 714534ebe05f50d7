/- SessionPrunes, walked. -/
import Derived.Test.YthllidchoodofaaDoorPD
namespace Go.Proofs.YthllidchoodofaaDoor
open Go.RowKit
set_option linter.unusedVariables false
set_option linter.unusedSimpArgs false
set_option maxRecDepth 8000

theorem small_sub {xs ys : List SesX} (h : smallZ xs) (hs : ys.Sublist xs) : smallZ ys := fun b hb => h b (hs.mem hb)
theorem find_pr {xs : List SesX} {now : Int} {i : Nat} {r : SesX} (hr : rightZ xs = true) (hn : numZ now 0 = true) (h : xs[i]? = some r) : findZ (pruneZ xs now) r.id = if liveZ now r = true then (r, true) else (noZ, false) := by
  have e : pruneZ xs now = xs.filter (liveZ now) := by unfold pruneZ; rw [if_pos ⟨hr, hn⟩]
  split
  · rename_i hl
    have hm : r ∈ pruneZ xs now := by rw [e]; exact List.mem_filter.2 ⟨List.mem_of_getElem? h, hl⟩
    obtain ⟨j, hj⟩ := List.getElem?_of_mem hm
    exact findZ_is (prune_right hr) hj
  · rename_i hl
    refine findZ_no fun a ha hid => hl ?_
    rw [e] at ha
    obtain ⟨ha1, ha2⟩ := List.mem_filter.1 ha
    obtain ⟨j, hj⟩ := List.getElem?_of_mem ha1
    have hij := idZ_one hr hj h hid
    subst hij
    rw [h] at hj
    cases hj
    exact ha2
abbrev cntZ (xs : List SesX) (now : Int) (i : Nat) : Nat := ((xs.take i).filter (liveZ now)).length
theorem cnt_yes {xs : List SesX} {now : Int} {i : Nat} {r : SesX} (h : xs[i]? = some r) (hl : liveZ now r = true) : cntZ xs now (i + 1) = cntZ xs now i + 1 := by
  unfold cntZ
  rw [List.take_add_one, h, List.filter_append, List.length_append]
  simp only [Option.toList_some]
  rw [List.filter_cons, if_pos hl]
  rfl
theorem cnt_no {xs : List SesX} {now : Int} {i : Nat} {r : SesX} (h : xs[i]? = some r) (hl : liveZ now r = false) : cntZ xs now (i + 1) = cntZ xs now i := by
  unfold cntZ
  rw [List.take_add_one, h, List.filter_append, List.length_append]
  simp only [Option.toList_some]
  rw [List.filter_cons, if_neg (by rw [hl]; decide)]
  rfl
theorem cnt_le (xs : List SesX) (now : Int) (i : Nat) : cntZ xs now i ≤ xs.length := by
  unfold cntZ
  have h1 := List.length_filter_le (liveZ now) (xs.take i)
  rw [List.length_take] at h1
  omega
set_option maxHeartbeats 1000000 in
theorem sessionPrunes_v (xs : List SesX) (now : Int) (sv : Value) (w : World) (L : List Nat) (hL : LL L w) (h1 : RdF 10 L w sv (xs.map encZ)) (hM : MaxL L w)  (hsz : smallZ xs) : CV Tryd.prog 5 [sv, .int .i64 now] w fun v W => v = .bool true := by
  refine cv_enter (N := 85) (f := [(0, sv), (1, .int .i64 now)]) Tryd.func5 rfl rfl rfl rfl fun Q hQ hE => ?_
  have hB := Below.refl w.heap.size w
  have h1m : xs.length ≤ maxLen := by have := h1.len; rwa [List.length_map] at this
  unfold maxLen at h1m
  refine WC.seq fun K1 hK1 => ?_
  refine WC.region ?_
  refine WL.val (dx_assign rfl rfl) rfl rfl ?_
  refine WL.nil ?_
  refine hK1 ?_
  refine WC.seq fun K2 hK2 => ?_
  refine WC.seq fun K3 hK3 => ?_
  refine WC.region ?_
  refine WL.get (dx_cv rfl Tryd.func6 rfl rfl rfl (alive16_v w _ hL hM)) rfl rfl ?_
  rintro _ W5 ⟨rfl, b4⟩
  replace h1 := h1.below b4
  replace hM := hM.below b4
  replace hB := below_then hB b4
  replace hL := LL.below hL b4
  refine WL.val (dx_not rfl rfl) rfl rfl ?_
  refine WL.nil ?_
  refine hK3 ?_
  refine WC.condF rfl ?_
  refine WC.skip ?_
  refine hK2 ?_
  refine WC.seq fun K6 hK6 => ?_
  refine WC.seq fun K7 hK7 => ?_
  refine WC.region ?_
  refine WL.val (dx_move rfl rfl) rfl rfl ?_
  refine WL.get (dx_cv rfl Tryd.func7 rfl rfl rfl (great16_v xs _ W5 _ hL h1)) rfl rfl ?_
  rintro _ W9 ⟨rfl, b8⟩
  replace h1 := h1.below b8
  replace hM := hM.below b8
  replace hB := below_then hB b8
  replace hL := LL.below hL b8
  refine WL.val (dx_move rfl rfl) rfl rfl ?_
  refine WL.split 14 rfl (fun g10 => ?_) (fun g10 => ?_)
  ·
    replace g10 := of_decide_eq_true g10
    refine WL.off rfl rfl rfl ?_
    refine WL.off rfl rfl rfl ?_
    refine WL.off rfl rfl rfl ?_
    refine WL.val (dx_pick rfl rfl rfl) rfl rfl ?_
    refine WL.val (dx_move rfl rfl) rfl rfl ?_
    refine WL.off rfl rfl rfl ?_
    refine WL.off rfl rfl rfl ?_
    refine WL.val (dx_pick rfl rfl rfl) rfl rfl ?_
    refine WL.val (dx_move rfl rfl) rfl rfl ?_
    refine WL.off rfl rfl rfl ?_
    refine WL.off rfl rfl rfl ?_
    refine WL.val (dx_pick rfl rfl rfl) rfl rfl ?_
    refine WL.nil ?_
    refine hK7 ?_
    refine WC.condT rfl ?_
    refine WC.seq fun K11 hK11 => ?_
    refine WC.region ?_
    refine WL.val (dx_assign rfl rfl) rfl rfl ?_
    refine WL.nil ?_
    refine hK11 ?_
    refine WC.ret fun a_ ha_ => ?_
    exact hQ (cv_ret1 rfl (.tmp rfl) rfl hB ha_)
  ·
    replace g10 := of_decide_eq_false g10
    refine WL.val (dx_move rfl rfl) rfl rfl ?_
    refine WL.get (dx_cv rfl Tryd.func11 rfl rfl rfl (rightZ_v xs _ W9 _ hL h1 hM hsz)) rfl rfl ?_
    rintro _ W13 ⟨rfl, b12⟩
    replace h1 := h1.below b12
    replace hM := hM.below b12
    replace hB := below_then hB b12
    replace hL := LL.below hL b12
    refine WL.val (dx_not rfl rfl) rfl rfl ?_
    refine WL.val (dx_pick rfl rfl rfl) rfl rfl ?_
    refine WL.val (dx_move rfl rfl) rfl rfl ?_
    refine WL.split 19 rfl (fun g14 => ?_) (fun g14 => ?_)
    ·
      replace g14 := bnot_t g14
      refine WL.off rfl rfl rfl ?_
      refine WL.off rfl rfl rfl ?_
      refine WL.val (dx_pick rfl rfl rfl) rfl rfl ?_
      refine WL.val (dx_move rfl rfl) rfl rfl ?_
      refine WL.off rfl rfl rfl ?_
      refine WL.off rfl rfl rfl ?_
      refine WL.val (dx_pick rfl rfl rfl) rfl rfl ?_
      refine WL.nil ?_
      refine hK7 ?_
      refine WC.condT rfl ?_
      refine WC.seq fun K15 hK15 => ?_
      refine WC.region ?_
      refine WL.val (dx_assign rfl rfl) rfl rfl ?_
      refine WL.nil ?_
      refine hK15 ?_
      refine WC.ret fun a_ ha_ => ?_
      exact hQ (cv_ret1 rfl (.tmp rfl) rfl hB ha_)
    ·
      replace g14 := bnot_f g14
      refine WL.val (dx_move rfl rfl) rfl rfl ?_
      refine WL.val (dx_lss rfl rfl rfl) rfl rfl ?_
      refine WL.val (dx_pick rfl rfl rfl) rfl rfl ?_
      refine WL.val (dx_move rfl rfl) rfl rfl ?_
      refine WL.split 23 rfl (fun g16 => ?_) (fun g16 => ?_)
      ·
        replace g16 := of_decide_eq_true g16
        refine WL.off rfl rfl rfl ?_
        refine WL.off rfl rfl rfl ?_
        refine WL.val (dx_pick rfl rfl rfl) rfl rfl ?_
        refine WL.nil ?_
        refine hK7 ?_
        refine WC.condT rfl ?_
        refine WC.seq fun K17 hK17 => ?_
        refine WC.region ?_
        refine WL.val (dx_assign rfl rfl) rfl rfl ?_
        refine WL.nil ?_
        refine hK17 ?_
        refine WC.ret fun a_ ha_ => ?_
        exact hQ (cv_ret1 rfl (.tmp rfl) rfl hB ha_)
      ·
        replace g16 := of_decide_eq_false g16
        refine WL.val (dx_move rfl rfl) rfl rfl ?_
        refine WL.val (dx_gtr rfl rfl rfl) rfl rfl ?_
        refine WL.val (dx_pick rfl rfl rfl) rfl rfl ?_
        refine WL.nil ?_
        refine hK7 ?_
        refine WC.cond rfl (fun c18 => ?_) (fun c18 => ?_)
        ·
          replace c18 := of_decide_eq_true c18
          refine WC.seq fun K19 hK19 => ?_
          refine WC.region ?_
          refine WL.val (dx_assign rfl rfl) rfl rfl ?_
          refine WL.nil ?_
          refine hK19 ?_
          refine WC.ret fun a_ ha_ => ?_
          exact hQ (cv_ret1 rfl (.tmp rfl) rfl hB ha_)
        ·
          replace c18 := of_decide_eq_false c18
          refine WC.skip ?_
          refine hK6 ?_
          refine WC.seq fun K20 hK20 => ?_
          have hr := (show rightZ xs = true by assumption)
          have hrl := rightZ_len hr
          have hnn : numZ now 0 = true := (by simp; omega)
          have hnw := numZ_t hnn
          refine WC.region ?_
          refine WL.val (dx_move rfl rfl) rfl rfl ?_
          refine WL.val (dx_move rfl rfl) rfl rfl ?_
          refine WL.get (dx_cv rfl Tryd.func16 rfl rfl rfl ((prune_v xs now _ W13 _ hL h1 hM hsz).mono fun v W _ h => (show RdF 10 (L) W v ((pruneZ xs now).map encZ) from h.rd hL))) rfl rfl ?_
          rintro u21 W24 ⟨j22, b23⟩
          replace h1 := h1.below b23
          replace hM := hM.below b23
          replace hB := below_then hB b23
          replace hL := LL.below hL b23
          refine WL.val (dx_assign rfl rfl) rfl rfl ?_
          refine WL.nil ?_
          refine hK20 ?_
          refine WC.seq fun K25 hK25 => ?_
          refine WC.seq fun K26 hK26 => ?_
          refine WC.region ?_
          refine WL.val (dx_move rfl rfl) rfl rfl ?_
          refine WL.val (dx_move rfl rfl) rfl rfl ?_
          refine WL.val (dx_move rfl rfl) rfl rfl ?_
          refine WL.get (dx_cv rfl Tryd.func16 rfl rfl rfl ((prune_v (pruneZ xs now) now _ W24 _ hL j22 hM (small_sub hsz (prune_sub xs now))).mono fun v W _ h => (show RdF 10 (L) W v ((pruneZ xs now).map encZ) from by rw [prune_again] at h; exact h.rd hL))) rfl rfl ?_
          rintro u27 W30 ⟨j28, b29⟩
          replace h1 := h1.below b29
          replace hM := hM.below b29
          replace j22 := j22.below b29
          replace hB := below_then hB b29
          replace hL := LL.below hL b29
          refine WL.get (dx_cv rfl Tryd.func10 rfl rfl rfl (sameL_v (pruneZ xs now) _ _ W30 _ hL j22 j28)) rfl rfl ?_
          rintro _ W32 ⟨rfl, b31⟩
          replace h1 := h1.below b31
          replace hM := hM.below b31
          replace j22 := j22.below b31
          replace j28 := j28.below b31
          replace hB := below_then hB b31
          replace hL := LL.below hL b31
          refine WL.val (dx_not rfl rfl) rfl rfl ?_
          refine WL.val (dx_move rfl rfl) rfl rfl ?_
          refine WL.val (dx_move rfl rfl) rfl rfl ?_
          refine WL.get (dx_cv rfl Tryd.func11 rfl rfl rfl ((show CV _ _ [_] _ (fun v W => v = .bool true) from by have := rightZ_v (pruneZ xs now) _ W32 _ hL j22 hM (small_sub hsz (prune_sub xs now)); rw [prune_right (show rightZ xs = true by assumption)] at this; exact this))) rfl rfl ?_
          rintro _ W34 ⟨rfl, b33⟩
          replace h1 := h1.below b33
          replace hM := hM.below b33
          replace j22 := j22.below b33
          replace j28 := j28.below b33
          replace hB := below_then hB b33
          replace hL := LL.below hL b33
          refine WL.val (dx_not rfl rfl) rfl rfl ?_
          refine WL.val (dx_pick rfl rfl rfl) rfl rfl ?_
          refine WL.nil ?_
          refine hK26 ?_
          refine WC.condF rfl ?_
          refine WC.skip ?_
          refine hK25 ?_
          refine WC.seq fun K35 hK35 => ?_
          refine WC.region ?_
          refine WL.val (dx_assign rfl rfl) rfl rfl ?_
          refine WL.nil ?_
          refine hK35 ?_
          refine WC.seq fun K36 hK36 => ?_
          refine WC.seq fun K37 hK37 => ?_
          refine WC.region ?_
          refine WL.val (dx_assign rfl rfl) rfl rfl ?_
          refine WL.nil ?_
          refine hK37 ?_
          refine WC.block ?_
          refine WC.loop (fun (i : Nat) => [(0, sv), (1, .int .i64 now), (5, u21), (7, .int .i64 (i : Int)), (6, .int .i64 ((cntZ xs now i : Nat) : Int))]) (fun (i : Nat) W => i ≤ xs.length ∧ Below w.heap.size w W ∧ LL (L) W ∧ RdF 10 (L) W sv (xs.map encZ) ∧ MaxL (L) W ∧ RdF 10 (L) W u21 ((pruneZ xs now).map encZ) ∧ RdF 10 (L) W u27 ((pruneZ xs now).map encZ)) (fun (i : Nat) => xs.length - i) 0 (by repeat first | exact trivial | exact And.intro rfl trivial | refine And.intro rfl ?_ | refine And.intro (congrArg (fun z : Int => some (Value.int .i64 z)) (by omega)) ?_) ⟨Nat.zero_le _, hB, hL, h1, hM, j22, j28⟩ ?_
          clear h1 hM j22 j28 hB hL
          rintro K38 i W39 ⟨hi, hB, hL, h1, hM, j22, j28⟩ hK38
          refine WC.seq fun K40 hK40 => ?_
          refine WC.seq fun K41 hK41 => ?_
          refine WC.region ?_
          refine WL.val (dx_move rfl rfl) rfl rfl ?_
          refine WL.val (dx_move rfl rfl) rfl rfl ?_
          refine WL.val (dx_lenX rfl ty_slice_22 rfl h1) rfl rfl ?_
          refine WL.val (dx_lss rfl rfl rfl) rfl rfl ?_
          refine WL.nil ?_
          refine hK41 ?_
          refine WC.cond rfl (fun c42 => ?_) (fun c42 => ?_)
          ·
            replace c42 := of_decide_eq_true c42
            refine WC.skip ?_
            refine hK40 ?_
            refine WC.seq fun K43 hK43 => ?_
            refine WC.block ?_
            refine WC.seq fun K44 hK44 => ?_
            obtain ⟨r45, e46⟩ : ∃ x, xs[i]? = some x := ⟨_, List.getElem?_eq_getElem (by omega)⟩
            have hg := goodZ_t (rightZ_good hr e46)
            have hfp := find_pr hr hnn e46
            have hcl := cnt_le xs now (i + 1)
            rcases Int.lt_or_le 86400 (now - r45.since) with hlv | hlv
            ·
              have hlz : liveZ now r45 = false := (by unfold liveZ; rw [decide_eq_true (by omega)]; rfl)
              rw [hlz, if_neg (by decide)] at hfp
              have hcn := cnt_no e46 hlz
              refine WC.region ?_
              refine WL.val (dx_move rfl rfl) rfl rfl ?_
              refine WL.val (dx_move rfl rfl) rfl rfl ?_
              refine WL.val (dx_move rfl rfl) rfl rfl ?_
              refine WL.get (dx_idxF i rfl ty_slice_22 rfl rfl h1 (by omega) (at_mapX e46)) rfl rfl ?_
              rintro u47 _ ⟨rfl, p48⟩
              refine WL.get (dx_fldP 1 rfl ty_fld_26_0_0 rfl p48 (cs' := [.int .i64 r45.id]) rfl (Nat.succ_pos _)) rfl rfl ?_
              rintro u49 _ ⟨rfl, p50⟩
              refine WL.val (dx_loadP rfl ty_one_3 rfl p50) rfl rfl ?_
              refine WL.get (dx_cv rfl Tryd.func17 rfl rfl rfl ((show CV _ _ [_, _] _ (fun v W => v = .tuple #[.agg (encZ noZ).toArray, .bool false]) from by have := findZ_v (pruneZ xs now) r45.id _ W39 _ hL j22 hM (small_sub hsz (prune_sub xs now)); rw [hfp] at this; exact this))) rfl rfl ?_
              rintro _ W52 ⟨rfl, b51⟩
              replace h1 := h1.below b51
              replace hM := hM.below b51
              replace j22 := j22.below b51
              replace j28 := j28.below b51
              replace p48 := p48.below b51
              replace p50 := p50.below b51
              replace hB := below_then hB b51
              replace hL := LL.below hL b51
              refine WL.val (dx_move rfl rfl) rfl rfl ?_
              refine WL.val (dx_extract rfl rfl rfl) rfl rfl ?_
              refine WL.val (dx_extract rfl rfl rfl) rfl rfl ?_
              refine WL.get (dx_alloc rfl ty_zero_26 rfl) rfl rfl ?_
              rintro _ W53 ⟨rfl, k54, b55, z56⟩
              have l57 := hB.size
              replace h1 := h1.more b55 (Nat.le_refl _)
              replace hM := hM.more b55 (Nat.le_refl _)
              replace j22 := j22.more b55 (Nat.le_refl _)
              replace j28 := j28.more b55 (Nat.le_refl _)
              replace p48 := p48.more b55 (Nat.le_refl _)
              replace p50 := p50.more b55 (Nat.le_refl _)
              replace hB := below_then hB b55
              replace hL := LL.more hL z56
              refine WL.do (dx_store (cs' := [.int .i64 noZ.id, .string noZ.sec, .string noZ.med, .string noZ.whr, .string noZ.tok, .int .i64 noZ.att, .int .i64 noZ.since, .int .i64 noZ.wrong, .bool noZ.shown, .int .i64 noZ.sat]) (vs := [.int .i64 noZ.id, .string noZ.sec, .string noZ.med, .string noZ.whr, .string noZ.tok, .int .i64 noZ.att, .int .i64 noZ.since, .int .i64 noZ.wrong, .bool noZ.shown, .int .i64 noZ.sat]) rfl ty_size_26_10 rfl rfl rfl (oc_cons rfl (oc_cons rfl (oc_cons rfl (oc_cons rfl (oc_cons rfl (oc_cons rfl (oc_cons rfl (oc_cons rfl (oc_cons rfl (oc_cons rfl oc_nil)))))))))) k54 rfl (Nat.le_of_ble_eq_true rfl) rfl) rfl ?_
              rintro _ W58 ⟨k60, o59⟩
              clear k54
              replace h1 := h1.only o59 (.head _)
              replace hM := hM.only o59 (.head _)
              replace j22 := j22.only o59 (.head _)
              replace j28 := j28.only o59 (.head _)
              replace p48 := p48.only o59 (.head _)
              replace p50 := p50.only o59 (.head _)
              replace hB := o59.below hB l57
              replace hL := LL.only hL o59
              refine WL.val (dx_assign rfl rfl) rfl rfl ?_
              refine WL.nil ?_
              refine hK44 ?_
              refine WC.seq fun K61 hK61 => ?_
              refine WC.seq fun K62 hK62 => ?_
              refine WC.drawM 21 [(some 57, .is (.bool false)), (some 58, .is (.int .i64 now)), (some 59, .is (sv)), (some 60, .is (.int .i64 (i : Int))), (some 61, .by fun u W => PtR (W52.heap.size :: L) W u (encZ r45)), (some 62, .by fun u W => PtR (W52.heap.size :: L) W u [.int .i64 r45.since]), (some 63, .is (.int .i64 r45.since)), (some 64, .is (.int .i64 (now - r45.since))), (some 65, .is (.bool false)), (some 66, .is (.bool false)), (some 67, .is (.bool false)), (some 68, .is (.bool false)), (some 69, .is (.bool false)), (some 70, .is (undef)), (some 71, .is (undef)), (some 72, .is (undef)), (some 73, .is (undef)), (some 74, .is (undef)), (some 75, .is (undef)), (some 76, .is (.bool false)), (some 77, .is (.bool false))] [[], [], [], [], [2, 3], [4], [5], [1, 6], [7], [0, 8], [9], [10], [11, 10, 10], [12], [12], [12], [14, 15, 12], [16, 12], [13, 17, 12], [12, 18, 10], [10, 19]] (by kernel_rfl) (by kernel_rfl) (by kernel_rfl) (by kernel_rfl) (by kernel_rfl) (by kernel_rfl) (by kernel_rfl) ⟨fun _ _ _ hb h => h.below hb, fun _ _ _ hb h => h.below hb, trivial⟩ ?_ ?_
              ·
                refine DSteps.cons (fun Wd hd => ?_) ?_
                ·
                  exact DV.dr (dx_move rfl rfl) ⟨Below.refl _ _, rfl⟩
                refine DSteps.cons (fun Wd hd => ?_) ?_
                ·
                  exact DV.dr (dx_move rfl rfl) ⟨Below.refl _ _, rfl⟩
                refine DSteps.cons (fun Wd hd => ?_) ?_
                ·
                  exact DV.dr (dx_move rfl rfl) ⟨Below.refl _ _, rfl⟩
                refine DSteps.cons (fun Wd hd => ?_) ?_
                ·
                  exact DV.dr (dx_move rfl rfl) ⟨Below.refl _ _, rfl⟩
                refine DSteps.cons (fun Wd hd => ?_) ?_
                ·
                  have h1 := h1.below hd
                  exact (dx_idxF i rfl ty_slice_22 rfl rfl h1 (by omega) (at_mapX e46)).mono (fun v W' h => ⟨by rw [← h.1]; exact Below.refl _ _, by rw [← h.1]; exact h.2⟩)
                refine DSteps.cons (fun Wd hd => ?_) ?_
                ·
                  intro u13_4 p13_4
                  exact (dx_fldP 1 rfl ty_fld_26_5_6 rfl p13_4 (cs' := [.int .i64 r45.since]) rfl (Nat.succ_pos _)).mono (fun v W' h => ⟨by rw [← h.1]; exact Below.refl _ _, by rw [← h.1]; exact h.2⟩)
                refine DSteps.cons (fun Wd hd => ?_) ?_
                ·
                  intro u13_5 p13_5
                  exact DV.dr (dx_loadP rfl ty_one_3 rfl p13_5) ⟨Below.refl _ _, rfl⟩
                refine DSteps.cons (fun Wd hd => ?_) ?_
                ·
                  exact DV.dr (dx_sub (r := now - r45.since) rfl rfl rfl (wrap64_id (by omega))) ⟨Below.refl _ _, rfl⟩
                refine DSteps.cons (fun Wd hd => ?_) ?_
                ·
                  exact DV.dr (dv_N (dx_leq rfl rfl rfl) (by omega)) ⟨Below.refl _ _, rfl⟩
                refine DSteps.cons (fun Wd hd => ?_) ?_
                ·
                  exact DV.dr (dv_Fz (dx_neqB rfl Tryd.underlying4 rfl rfl) (by decide)) ⟨Below.refl _ _, rfl⟩
                refine DSteps.cons (fun Wd hd => ?_) ?_
                ·
                  exact DV.dr (dx_move rfl rfl) ⟨Below.refl _ _, rfl⟩
                refine DSteps.cons (fun Wd hd => ?_) ?_
                ·
                  exact DV.dr (dx_move rfl rfl) ⟨Below.refl _ _, rfl⟩
                refine DSteps.cons (fun Wd hd => ?_) ?_
                ·
                  exact DV.dr (dx_move rfl rfl) ⟨Below.refl _ _, rfl⟩
                refine DSteps.cons (fun Wd hd => ?_) ?_
                ·
                  exact DV.dr (dv_off rfl) ⟨Below.refl _ _, rfl⟩
                refine DSteps.cons (fun Wd hd => ?_) ?_
                ·
                  exact DV.dr (dv_off rfl) ⟨Below.refl _ _, rfl⟩
                refine DSteps.cons (fun Wd hd => ?_) ?_
                ·
                  exact DV.dr (dv_off rfl) ⟨Below.refl _ _, rfl⟩
                refine DSteps.cons (fun Wd hd => ?_) ?_
                ·
                  exact DV.dr (dv_off rfl) ⟨Below.refl _ _, rfl⟩
                refine DSteps.cons (fun Wd hd => ?_) ?_
                ·
                  exact DV.dr (dv_off rfl) ⟨Below.refl _ _, rfl⟩
                refine DSteps.cons (fun Wd hd => ?_) ?_
                ·
                  exact DV.dr (dv_off rfl) ⟨Below.refl _ _, rfl⟩
                refine DSteps.cons (fun Wd hd => ?_) ?_
                ·
                  exact DV.dr (dx_pick rfl rfl rfl) ⟨Below.refl _ _, rfl⟩
                refine DSteps.cons (fun Wd hd => ?_) ?_
                ·
                  exact DV.dr (dx_pick rfl rfl rfl) ⟨Below.refl _ _, rfl⟩
                exact trivial
              ·
                intro W63 b64
                intro u13_4 p13_4
                intro u13_5 p13_5
                replace h1 := h1.below b64
                replace hM := hM.below b64
                replace j22 := j22.below b64
                replace j28 := j28.below b64
                replace k60 := k60.below b64
                replace hB := below_then hB b64
                replace hL := LL.below hL b64
                refine WL.nil ?_
                refine hK62 ?_
                refine WC.condF rfl ?_
                refine WC.skip ?_
                refine hK61 ?_
                refine WC.seq fun K65 hK65 => ?_
                refine WC.region ?_
                refine WL.val (dx_move rfl rfl) rfl rfl ?_
                refine WL.nil ?_
                refine hK65 ?_
                refine WC.condF rfl ?_
                refine WC.skip ?_
                refine hK43 ?_
                refine WC.region ?_
                refine WL.val (dx_move rfl rfl) rfl rfl ?_
                refine WL.val (dx_add (r := (i : Int) + 1) rfl rfl rfl (wrap64_id (by omega))) rfl rfl ?_
                refine WL.val (dx_assign rfl rfl) rfl rfl ?_
                refine WL.nil ?_
                replace hL := hL.less (fun x hx => (.tail _ hx))
                replace h1 := h1.less (fun x hx => (.tail _ hx))
                replace hM := hM.less (fun x hx => (.tail _ hx))
                replace j22 := j22.less (fun x hx => (.tail _ hx))
                replace j28 := j28.less (fun x hx => (.tail _ hx))
                exact hK38 (i + 1) ⟨(by omega), hB, hL, h1, hM, j22, j28⟩ (by omega) (by repeat first | exact trivial | exact And.intro rfl trivial | refine And.intro rfl ?_ | refine And.intro (congrArg (fun z : Int => some (Value.int .i64 z)) (by omega)) ?_)
            ·
              have hlz : liveZ now r45 = true := (by unfold liveZ; rw [decide_eq_false (by omega)]; rfl)
              rw [hlz, if_pos rfl] at hfp
              have hcn := cnt_yes e46 hlz
              refine WC.region ?_
              refine WL.val (dx_move rfl rfl) rfl rfl ?_
              refine WL.val (dx_move rfl rfl) rfl rfl ?_
              refine WL.val (dx_move rfl rfl) rfl rfl ?_
              refine WL.get (dx_idxF i rfl ty_slice_22 rfl rfl h1 (by omega) (at_mapX e46)) rfl rfl ?_
              rintro u66 _ ⟨rfl, p67⟩
              refine WL.get (dx_fldP 1 rfl ty_fld_26_0_0 rfl p67 (cs' := [.int .i64 r45.id]) rfl (Nat.succ_pos _)) rfl rfl ?_
              rintro u68 _ ⟨rfl, p69⟩
              refine WL.val (dx_loadP rfl ty_one_3 rfl p69) rfl rfl ?_
              refine WL.get (dx_cv rfl Tryd.func17 rfl rfl rfl ((show CV _ _ [_, _] _ (fun v W => v = .tuple #[.agg (encZ r45).toArray, .bool true]) from by have := findZ_v (pruneZ xs now) r45.id _ W39 _ hL j22 hM (small_sub hsz (prune_sub xs now)); rw [hfp] at this; exact this))) rfl rfl ?_
              rintro _ W71 ⟨rfl, b70⟩
              replace h1 := h1.below b70
              replace hM := hM.below b70
              replace j22 := j22.below b70
              replace j28 := j28.below b70
              replace p67 := p67.below b70
              replace p69 := p69.below b70
              replace hB := below_then hB b70
              replace hL := LL.below hL b70
              refine WL.val (dx_move rfl rfl) rfl rfl ?_
              refine WL.val (dx_extract rfl rfl rfl) rfl rfl ?_
              refine WL.val (dx_extract rfl rfl rfl) rfl rfl ?_
              refine WL.get (dx_alloc rfl ty_zero_26 rfl) rfl rfl ?_
              rintro _ W72 ⟨rfl, k73, b74, z75⟩
              have l76 := hB.size
              replace h1 := h1.more b74 (Nat.le_refl _)
              replace hM := hM.more b74 (Nat.le_refl _)
              replace j22 := j22.more b74 (Nat.le_refl _)
              replace j28 := j28.more b74 (Nat.le_refl _)
              replace p67 := p67.more b74 (Nat.le_refl _)
              replace p69 := p69.more b74 (Nat.le_refl _)
              replace hB := below_then hB b74
              replace hL := LL.more hL z75
              refine WL.do (dx_store (cs' := [.int .i64 r45.id, .string r45.sec, .string r45.med, .string r45.whr, .string r45.tok, .int .i64 r45.att, .int .i64 r45.since, .int .i64 r45.wrong, .bool r45.shown, .int .i64 r45.sat]) (vs := [.int .i64 r45.id, .string r45.sec, .string r45.med, .string r45.whr, .string r45.tok, .int .i64 r45.att, .int .i64 r45.since, .int .i64 r45.wrong, .bool r45.shown, .int .i64 r45.sat]) rfl ty_size_26_10 rfl rfl rfl (oc_cons rfl (oc_cons rfl (oc_cons rfl (oc_cons rfl (oc_cons rfl (oc_cons rfl (oc_cons rfl (oc_cons rfl (oc_cons rfl (oc_cons rfl oc_nil)))))))))) k73 rfl (Nat.le_of_ble_eq_true rfl) rfl) rfl ?_
              rintro _ W77 ⟨k79, o78⟩
              clear k73
              replace h1 := h1.only o78 (.head _)
              replace hM := hM.only o78 (.head _)
              replace j22 := j22.only o78 (.head _)
              replace j28 := j28.only o78 (.head _)
              replace p67 := p67.only o78 (.head _)
              replace p69 := p69.only o78 (.head _)
              replace hB := o78.below hB l76
              replace hL := LL.only hL o78
              refine WL.val (dx_assign rfl rfl) rfl rfl ?_
              refine WL.nil ?_
              refine hK44 ?_
              refine WC.seq fun K80 hK80 => ?_
              refine WC.seq fun K81 hK81 => ?_
              refine WC.drawM 21 [(some 57, .is (.bool true)), (some 58, .is (.int .i64 now)), (some 59, .is (sv)), (some 60, .is (.int .i64 (i : Int))), (some 61, .by fun u W => PtR (W71.heap.size :: L) W u (encZ r45)), (some 62, .by fun u W => PtR (W71.heap.size :: L) W u [.int .i64 r45.since]), (some 63, .is (.int .i64 r45.since)), (some 64, .is (.int .i64 (now - r45.since))), (some 65, .is (.bool true)), (some 66, .is (.bool false)), (some 67, .is (.bool false)), (some 68, .is (.bool true)), (some 69, .is (.bool true)), (some 70, .is (.agg #[.int .i64 r45.id, .string r45.sec, .string r45.med, .string r45.whr, .string r45.tok, .int .i64 r45.att, .int .i64 r45.since, .int .i64 r45.wrong, .bool r45.shown, .int .i64 r45.sat])), (some 71, .is (sv)), (some 72, .is (.int .i64 (i : Int))), (some 73, .by fun u W => PtR (W71.heap.size :: L) W u (encZ r45)), (some 74, .is (.agg #[.int .i64 r45.id, .string r45.sec, .string r45.med, .string r45.whr, .string r45.tok, .int .i64 r45.att, .int .i64 r45.since, .int .i64 r45.wrong, .bool r45.shown, .int .i64 r45.sat])), (some 75, .is (.bool false)), (some 76, .is (.bool false)), (some 77, .is (.bool false))] [[], [], [], [], [2, 3], [4], [5], [1, 6], [7], [0, 8], [9], [10], [11, 10, 10], [12], [12], [12], [14, 15, 12], [16, 12], [13, 17, 12], [12, 18, 10], [10, 19]] (by kernel_rfl) (by kernel_rfl) (by kernel_rfl) (by kernel_rfl) (by kernel_rfl) (by kernel_rfl) (by kernel_rfl) ⟨fun _ _ _ hb h => h.below hb, fun _ _ _ hb h => h.below hb, fun _ _ _ hb h => h.below hb, trivial⟩ ?_ ?_
              ·
                refine DSteps.cons (fun Wd hd => ?_) ?_
                ·
                  exact DV.dr (dx_move rfl rfl) ⟨Below.refl _ _, rfl⟩
                refine DSteps.cons (fun Wd hd => ?_) ?_
                ·
                  exact DV.dr (dx_move rfl rfl) ⟨Below.refl _ _, rfl⟩
                refine DSteps.cons (fun Wd hd => ?_) ?_
                ·
                  exact DV.dr (dx_move rfl rfl) ⟨Below.refl _ _, rfl⟩
                refine DSteps.cons (fun Wd hd => ?_) ?_
                ·
                  exact DV.dr (dx_move rfl rfl) ⟨Below.refl _ _, rfl⟩
                refine DSteps.cons (fun Wd hd => ?_) ?_
                ·
                  have h1 := h1.below hd
                  exact (dx_idxF i rfl ty_slice_22 rfl rfl h1 (by omega) (at_mapX e46)).mono (fun v W' h => ⟨by rw [← h.1]; exact Below.refl _ _, by rw [← h.1]; exact h.2⟩)
                refine DSteps.cons (fun Wd hd => ?_) ?_
                ·
                  intro u13_4 p13_4
                  exact (dx_fldP 1 rfl ty_fld_26_5_6 rfl p13_4 (cs' := [.int .i64 r45.since]) rfl (Nat.succ_pos _)).mono (fun v W' h => ⟨by rw [← h.1]; exact Below.refl _ _, by rw [← h.1]; exact h.2⟩)
                refine DSteps.cons (fun Wd hd => ?_) ?_
                ·
                  intro u13_5 p13_5
                  exact DV.dr (dx_loadP rfl ty_one_3 rfl p13_5) ⟨Below.refl _ _, rfl⟩
                refine DSteps.cons (fun Wd hd => ?_) ?_
                ·
                  exact DV.dr (dx_sub (r := now - r45.since) rfl rfl rfl (wrap64_id (by omega))) ⟨Below.refl _ _, rfl⟩
                refine DSteps.cons (fun Wd hd => ?_) ?_
                ·
                  exact DV.dr (dv_T (dx_leq rfl rfl rfl) (by omega)) ⟨Below.refl _ _, rfl⟩
                refine DSteps.cons (fun Wd hd => ?_) ?_
                ·
                  exact DV.dr (dv_Fz (dx_neqB rfl Tryd.underlying4 rfl rfl) (by decide)) ⟨Below.refl _ _, rfl⟩
                refine DSteps.cons (fun Wd hd => ?_) ?_
                ·
                  exact DV.dr (dx_move rfl rfl) ⟨Below.refl _ _, rfl⟩
                refine DSteps.cons (fun Wd hd => ?_) ?_
                ·
                  exact DV.dr (dx_move rfl rfl) ⟨Below.refl _ _, rfl⟩
                refine DSteps.cons (fun Wd hd => ?_) ?_
                ·
                  exact DV.dr (dx_move rfl rfl) ⟨Below.refl _ _, rfl⟩
                refine DSteps.cons (fun Wd hd => ?_) ?_
                ·
                  have k79 := k79.below hd
                  exact DV.dr (dx_loadN rfl ty_agg_26_10 rfl k79.range rfl) ⟨Below.refl _ _, rfl⟩
                refine DSteps.cons (fun Wd hd => ?_) ?_
                ·
                  exact DV.dr (dx_move rfl rfl) ⟨Below.refl _ _, rfl⟩
                refine DSteps.cons (fun Wd hd => ?_) ?_
                ·
                  exact DV.dr (dx_move rfl rfl) ⟨Below.refl _ _, rfl⟩
                refine DSteps.cons (fun Wd hd => ?_) ?_
                ·
                  have h1 := h1.below hd
                  exact (dx_idxF i rfl ty_slice_22 rfl rfl h1 (by omega) (at_mapX e46)).mono (fun v W' h => ⟨by rw [← h.1]; exact Below.refl _ _, by rw [← h.1]; exact h.2⟩)
                refine DSteps.cons (fun Wd hd => ?_) ?_
                ·
                  intro u13_16 p13_16
                  exact DV.dr (dx_loadPN rfl ty_agg_26_10 rfl p13_16 rfl) ⟨Below.refl _ _, rfl⟩
                refine DSteps.cons (fun Wd hd => ?_) ?_
                ·
                  exact DV.dr (dx_neZR (p := r45) rfl rfl rfl) ⟨Below.refl _ _, rfl⟩
                refine DSteps.cons (fun Wd hd => ?_) ?_
                ·
                  exact DV.dr (dx_pick rfl rfl rfl) ⟨Below.refl _ _, rfl⟩
                refine DSteps.cons (fun Wd hd => ?_) ?_
                ·
                  exact DV.dr (dx_pick rfl rfl rfl) ⟨Below.refl _ _, rfl⟩
                exact trivial
              ·
                intro W82 b83
                intro u13_4 p13_4
                intro u13_5 p13_5
                intro u13_16 p13_16
                replace h1 := h1.below b83
                replace hM := hM.below b83
                replace j22 := j22.below b83
                replace j28 := j28.below b83
                replace k79 := k79.below b83
                replace hB := below_then hB b83
                replace hL := LL.below hL b83
                refine WL.nil ?_
                refine hK81 ?_
                refine WC.condF rfl ?_
                refine WC.skip ?_
                refine hK80 ?_
                refine WC.seq fun K84 hK84 => ?_
                refine WC.region ?_
                refine WL.val (dx_move rfl rfl) rfl rfl ?_
                refine WL.nil ?_
                refine hK84 ?_
                refine WC.condT rfl ?_
                refine WC.region ?_
                refine WL.val (dx_move rfl rfl) rfl rfl ?_
                refine WL.val (dx_add (r := ((cntZ xs now (i + 1) : Nat) : Int)) rfl rfl rfl (by rw [hcn, wrap64_id (by omega)]; omega)) rfl rfl ?_
                refine WL.val (dx_assign rfl rfl) rfl rfl ?_
                refine WL.nil ?_
                refine hK43 ?_
                refine WC.region ?_
                refine WL.val (dx_move rfl rfl) rfl rfl ?_
                refine WL.val (dx_add (r := (i : Int) + 1) rfl rfl rfl (wrap64_id (by omega))) rfl rfl ?_
                refine WL.val (dx_assign rfl rfl) rfl rfl ?_
                refine WL.nil ?_
                replace hL := hL.less (fun x hx => (.tail _ hx))
                replace h1 := h1.less (fun x hx => (.tail _ hx))
                replace hM := hM.less (fun x hx => (.tail _ hx))
                replace j22 := j22.less (fun x hx => (.tail _ hx))
                replace j28 := j28.less (fun x hx => (.tail _ hx))
                exact hK38 (i + 1) ⟨(by omega), hB, hL, h1, hM, j22, j28⟩ (by omega) (by repeat first | exact trivial | exact And.intro rfl trivial | refine And.intro rfl ?_ | refine And.intro (congrArg (fun z : Int => some (Value.int .i64 z)) (by omega)) ?_)
          ·
            replace c42 := of_decide_eq_false c42
            refine WC.exit ?_
            refine hK36 ?_
            refine WC.seq fun K85 hK85 => ?_
            refine WC.region ?_
            refine WL.val (dx_move rfl rfl) rfl rfl ?_
            refine WL.val (dx_move rfl rfl) rfl rfl ?_
            refine WL.val (dx_lenX rfl ty_slice_22 rfl j22) rfl rfl ?_
            refine WL.val (dx_eql rfl rfl rfl) rfl rfl ?_
            refine WL.val (dx_assign rfl rfl) rfl rfl ?_
            refine WL.nil ?_
            refine hK85 ?_
            refine WC.ret fun a_ ha_ => ?_
            exact hQ (cv_ret1 rfl (.tmp rfl) (by have e : (pruneZ xs now) = xs.filter (liveZ now) := (by unfold pruneZ; rw [if_pos ⟨hr, hnn⟩]); have ht : xs.take i = xs := List.take_of_length_le (by omega); have hl : cntZ xs now i = (pruneZ xs now).length := (by rw [e]; unfold cntZ; rw [ht]); rw [hl, decide_eq_true rfl]) hB ha_)

end Go.Proofs.YthllidchoodofaaDoor

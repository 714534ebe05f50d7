/- The reference on disks: Right, Copy, step, look, Read, Write; the law DiskWrites. -/
import Derived.Test.YthefddclefimoaaDskE
namespace Go.Proofs.Ythefddclefimoaa
open Go.RowKit
set_option linter.unusedVariables false
set_option linter.unusedSimpArgs false
set_option maxRecDepth 8000

theorem any_step {α : Type} {q : α → Bool} {l : List α} {i : Nat} {x : α} (h : l[i]? = some x) (hx : q x = false) : (l.drop i).any q = (l.drop (i + 1)).any q := by
  obtain ⟨hl, he⟩ := List.getElem?_eq_some_iff.1 h
  rw [List.drop_eq_getElem_cons hl, he, List.any_cons, hx, Bool.false_or]
theorem right_bad {secs : List (List Int)} {loose : List (Int × List Int)} {i : Nat} {p : Int × List Int} (h : loose[i]? = some p) (hb : hasB secs p.1 = false) : rightD secs loose = false := by
  unfold rightD
  have : (loose.any fun p => !hasB secs p.1) = true := List.any_eq_true.2 ⟨p, List.mem_of_getElem? h, by simp [hb]⟩
  simp [this]
theorem has_no {secs : List (List Int)} {a : Int} (h : a < 0 ∨ (secs.length : Int) ≤ a) : hasB secs a = false := by
  unfold hasB
  simp
  omega
theorem has_yes {secs : List (List Int)} {a : Int} (h : ¬ a < 0) (h2 : ¬ (secs.length : Int) ≤ a) : hasB secs a = true := by
  unfold hasB
  simp
  omega
set_option maxHeartbeats 1000000 in
theorem rright_v (secs : List (List Int)) (loose : List (Int × List Int)) (fuse : Int) (down : Bool) (s1 s2 : Value) (w : World) (L : List Nat) (hL : LL L w) (h1 : RdF 128 L w s1 (secs.map encS)) (h2 : RdF 129 L w s2 (loose.map encW)) : CV Try.prog 17 [.agg #[s1, s2, .int .i64 fuse, .bool down]] w fun v W => v = .bool (rightD secs loose) := by
  refine cv_enter (N := 46) (f := [(0, .agg #[s1, s2, .int .i64 fuse, .bool down])]) Try.func17 rfl rfl rfl rfl fun Q hQ hE => ?_
  have hB := Below.refl w.heap.size w
  have h1m : secs.length ≤ maxLen := by have := h1.len; rwa [List.length_map] at this
  unfold maxLen at h1m
  have h2m : loose.length ≤ maxLen := by have := h2.len; rwa [List.length_map] at this
  unfold maxLen at h2m
  refine WC.seq fun K1 hK1 => ?_
  refine WC.region ?_
  refine WL.get (dx_box rfl rfl rfl) rfl rfl ?_
  rintro _ W2 ⟨rfl, k3, b4, z5⟩
  have l6 := hB.size
  replace h1 := h1.more b4 (Nat.le_refl _)
  replace h2 := h2.more b4 (Nat.le_refl _)
  replace hB := below_then hB b4
  replace hL := LL.more hL z5
  refine WL.val (dx_assign rfl rfl) rfl rfl ?_
  refine WL.nil ?_
  refine hK1 ?_
  refine WC.seq fun K7 hK7 => ?_
  refine WC.seq fun K8 hK8 => ?_
  refine WC.region ?_
  refine WL.val (dx_fld (o1 := 0) rfl ty_fld_25_0_0 rfl rfl) rfl rfl ?_
  refine WL.val (dx_load rfl ty_one_22 rfl (k3.cell (k := 0) rfl)) rfl rfl ?_
  refine WL.val (dx_lenM rfl ty_slice_22 rfl h1) rfl rfl ?_
  refine WL.val (dx_lss rfl rfl rfl) rfl rfl ?_
  refine WL.val (dx_move rfl rfl) rfl rfl ?_
  refine WL.split 8 rfl (fun g9 => ?_) (fun g9 => ?_)
  ·
    replace g9 := of_decide_eq_true g9
    refine WL.off rfl rfl rfl ?_
    refine WL.off rfl rfl rfl ?_
    refine WL.off rfl rfl rfl ?_
    refine WL.off rfl rfl rfl ?_
    refine WL.val (dx_pick rfl rfl rfl) rfl rfl ?_
    refine WL.val (dx_move rfl rfl) rfl rfl ?_
    refine WL.off rfl rfl rfl ?_
    refine WL.off rfl rfl rfl ?_
    refine WL.off rfl rfl rfl ?_
    refine WL.off rfl rfl rfl ?_
    refine WL.val (dx_pick rfl rfl rfl) rfl rfl ?_
    refine WL.nil ?_
    refine hK8 ?_
    refine WC.condT rfl ?_
    refine WC.seq fun K10 hK10 => ?_
    refine WC.region ?_
    refine WL.val (dx_assign rfl rfl) rfl rfl ?_
    refine WL.nil ?_
    refine hK10 ?_
    refine WC.ret fun a_ ha_ => ?_
    exact hQ (cv_ret1 rfl (.tmp rfl) (by rw [show rightD secs loose = false from (by simp [rightD, g9])]) hB ha_)
  ·
    replace g9 := of_decide_eq_false g9
    refine WL.val (dx_fld (o1 := 0) rfl ty_fld_25_0_0 rfl rfl) rfl rfl ?_
    refine WL.val (dx_load rfl ty_one_22 rfl (k3.cell (k := 0) rfl)) rfl rfl ?_
    refine WL.val (dx_lenM rfl ty_slice_22 rfl h1) rfl rfl ?_
    refine WL.val (dx_gtr rfl rfl rfl) rfl rfl ?_
    refine WL.val (dx_pick rfl rfl rfl) rfl rfl ?_
    refine WL.val (dx_move rfl rfl) rfl rfl ?_
    refine WL.split 14 rfl (fun g11 => ?_) (fun g11 => ?_)
    ·
      replace g11 := of_decide_eq_true g11
      refine WL.off rfl rfl rfl ?_
      refine WL.off rfl rfl rfl ?_
      refine WL.off rfl rfl rfl ?_
      refine WL.off rfl rfl rfl ?_
      refine WL.val (dx_pick rfl rfl rfl) rfl rfl ?_
      refine WL.nil ?_
      refine hK8 ?_
      refine WC.condT rfl ?_
      refine WC.seq fun K12 hK12 => ?_
      refine WC.region ?_
      refine WL.val (dx_assign rfl rfl) rfl rfl ?_
      refine WL.nil ?_
      refine hK12 ?_
      refine WC.ret fun a_ ha_ => ?_
      exact hQ (cv_ret1 rfl (.tmp rfl) (by rw [show rightD secs loose = false from (by simp [rightD, g9, g11])]) hB ha_)
    ·
      replace g11 := of_decide_eq_false g11
      refine WL.val (dx_fld (o1 := 1) rfl ty_fld_25_1_1 rfl rfl) rfl rfl ?_
      refine WL.val (dx_load rfl ty_one_23 rfl (k3.cell (k := 1) rfl)) rfl rfl ?_
      refine WL.val (dx_lenM rfl ty_slice_23 rfl h2) rfl rfl ?_
      refine WL.val (dx_gtr rfl rfl rfl) rfl rfl ?_
      refine WL.val (dx_pick rfl rfl rfl) rfl rfl ?_
      refine WL.nil ?_
      refine hK8 ?_
      refine WC.cond rfl (fun c13 => ?_) (fun c13 => ?_)
      ·
        replace c13 := of_decide_eq_true c13
        refine WC.seq fun K14 hK14 => ?_
        refine WC.region ?_
        refine WL.val (dx_assign rfl rfl) rfl rfl ?_
        refine WL.nil ?_
        refine hK14 ?_
        refine WC.ret fun a_ ha_ => ?_
        exact hQ (cv_ret1 rfl (.tmp rfl) (by rw [show rightD secs loose = false from (by simp [rightD, g9, g11, c13])]) hB ha_)
      ·
        replace c13 := of_decide_eq_false c13
        refine WC.skip ?_
        refine hK7 ?_
        refine WC.seq fun K15 hK15 => ?_
        refine WC.seq fun K16 hK16 => ?_
        refine WC.region ?_
        refine WL.val (dx_assign rfl rfl) rfl rfl ?_
        refine WL.nil ?_
        refine hK16 ?_
        refine WC.block ?_
        refine WC.loop (fun (i : Nat) => [(1, .pointer (some ⟨w.heap.size, 0, none⟩)), (3, .int .i64 (i : Int))]) (fun (i : Nat) W => i ≤ loose.length ∧ (loose.any fun p => !hasB secs p.1) = ((loose.drop i).any fun p => !hasB secs p.1) ∧ Below w.heap.size w W ∧ LL (w.heap.size :: L) W ∧ RdF 128 (w.heap.size :: L) W s1 (secs.map encS) ∧ RdF 129 (w.heap.size :: L) W s2 (loose.map encW) ∧ Blk W w.heap.size [s1, s2, .int .i64 fuse, .bool down]) (fun (i : Nat) => loose.length - i) 0 (by repeat first | exact trivial | exact And.intro rfl trivial | refine And.intro rfl ?_ | refine And.intro (congrArg (fun z : Int => some (Value.int .i64 z)) (by omega)) ?_) ⟨Nat.zero_le _, rfl, hB, hL, h1, h2, k3⟩ ?_
        clear h1 h2 k3 hB hL
        rintro K17 i W18 ⟨hi, hv, hB, hL, h1, h2, k3⟩ hK17
        refine WC.seq fun K19 hK19 => ?_
        refine WC.seq fun K20 hK20 => ?_
        refine WC.region ?_
        refine WL.val (dx_move rfl rfl) rfl rfl ?_
        refine WL.val (dx_fld (o1 := 1) rfl ty_fld_25_1_1 rfl rfl) rfl rfl ?_
        refine WL.val (dx_load rfl ty_one_23 rfl (k3.cell (k := 1) rfl)) rfl rfl ?_
        refine WL.val (dx_lenM rfl ty_slice_23 rfl h2) rfl rfl ?_
        refine WL.val (dx_lss rfl rfl rfl) rfl rfl ?_
        refine WL.nil ?_
        refine hK20 ?_
        refine WC.cond rfl (fun c21 => ?_) (fun c21 => ?_)
        ·
          replace c21 := of_decide_eq_true c21
          refine WC.skip ?_
          refine hK19 ?_
          refine WC.seq fun K22 hK22 => ?_
          refine WC.block ?_
          refine WC.seq fun K23 hK23 => ?_
          obtain ⟨r24, e25⟩ : ∃ x, loose[i]? = some x := ⟨_, List.getElem?_eq_getElem (by omega)⟩
          have Lr24 := rdf_W h2 e25
          obtain ⟨b26, hb26⟩ : ∃ b, b = (decide (r24.1 < 0)) := ⟨_, rfl⟩
          refine WC.drawM 19 [(some 27, .is (.pointer (some ⟨w.heap.size, 1, none⟩))), (some 28, .is (s2)), (some 29, .is (.int .i64 (i : Int))), (some 30, .by fun u W => PtR (w.heap.size :: L) W u (encW r24)), (some 31, .by fun u W => PtR (w.heap.size :: L) W u [.int .i64 r24.1]), (some 32, .is (.int .i64 r24.1)), (some 33, .is (.bool (decide (r24.1 < 0)))), (some 34, .is (.bool b26)), (some 35, .is (bif b26 then undef else .pointer (some ⟨w.heap.size, 1, none⟩))), (some 36, .is (bif b26 then undef else s2)), (some 37, .is (bif b26 then undef else .int .i64 (i : Int))), (some 38, .by fun u W => b26 = false → PtR (w.heap.size :: L) W u (encW r24)), (some 39, .by fun u W => b26 = false → PtR (w.heap.size :: L) W u [.int .i64 r24.1]), (some 40, .is (bif b26 then undef else .int .i64 r24.1)), (some 41, .is (bif b26 then undef else .pointer (some ⟨w.heap.size, 0, none⟩))), (some 42, .is (bif b26 then undef else s1)), (some 43, .is (bif b26 then undef else .int .i64 (secs.length : Int))), (some 44, .is (bif b26 then undef else .bool (decide ((secs.length : Int) ≤ r24.1)))), (some 45, .is (.bool (b26 || (decide ((secs.length : Int) ≤ r24.1)))))] [[], [0], [], [1, 2], [3], [4], [5], [6], [7], [8, 7], [7], [9, 10, 7], [11, 7], [12, 7], [7], [14, 7], [15, 7], [13, 16, 7], [7, 17]] (by kernel_rfl) (by kernel_rfl) (by kernel_rfl) (by kernel_rfl) (by kernel_rfl) (by kernel_rfl) (by kernel_rfl) ⟨fun _ _ _ hb h => h.below hb, fun _ _ _ hb h => h.below hb, fun _ _ _ hb h g => (h g).below hb, fun _ _ _ hb h g => (h g).below hb, trivial⟩ ?_ ?_
          ·
            refine DSteps.cons (fun Wd hd => ?_) ?_
            ·
              exact DV.dr (dx_fld (o1 := 1) rfl ty_fld_25_1_1 rfl rfl) ⟨Below.refl _ _, rfl⟩
            refine DSteps.cons (fun Wd hd => ?_) ?_
            ·
              have k3 := k3.below hd
              exact DV.dr (dx_load rfl ty_one_23 rfl (k3.cell (k := 1) rfl)) ⟨Below.refl _ _, rfl⟩
            refine DSteps.cons (fun Wd hd => ?_) ?_
            ·
              exact DV.dr (dx_move rfl rfl) ⟨Below.refl _ _, rfl⟩
            refine DSteps.cons (fun Wd hd => ?_) ?_
            ·
              have h2 := h2.below hd
              exact (dx_idxF i rfl ty_slice_23 rfl rfl h2 (by omega) (at_map e25)).mono (fun v W' h => ⟨by rw [← h.1]; exact Below.refl _ _, by rw [← h.1]; exact h.2⟩)
            refine DSteps.cons (fun Wd hd => ?_) ?_
            ·
              intro u6_3 p6_3
              exact (dx_fldP 1 rfl ty_fld_59_0_0 rfl p6_3 (cs' := [.int .i64 r24.1]) (by simp [encW, List.take_of_length_le, encS_len, Lr24]) (Nat.succ_pos _)).mono (fun v W' h => ⟨by rw [← h.1]; exact Below.refl _ _, by rw [← h.1]; exact h.2⟩)
            refine DSteps.cons (fun Wd hd => ?_) ?_
            ·
              intro u6_4 p6_4
              exact DV.dr (dx_loadP rfl ty_one_3 rfl p6_4) ⟨Below.refl _ _, rfl⟩
            refine DSteps.cons (fun Wd hd => ?_) ?_
            ·
              exact DV.dr (dx_lss rfl rfl rfl) ⟨Below.refl _ _, rfl⟩
            refine DSteps.cons (fun Wd hd => ?_) ?_
            ·
              exact DV.dr (dx_move rfl rfl) ⟨Below.refl _ _, by rw [hb26]; rfl⟩
            refine DSteps.cons (fun Wd hd => ?_) ?_
            ·
              cases b26
              ·
                exact DV.dr (dx_fld (o1 := 1) rfl ty_fld_25_1_1 rfl rfl) ⟨Below.refl _ _, rfl⟩
              ·
                exact DV.dr (dv_off rfl) ⟨Below.refl _ _, rfl⟩
            refine DSteps.cons (fun Wd hd => ?_) ?_
            ·
              cases b26
              ·
                have k3 := k3.below hd
                exact DV.dr (dx_load rfl ty_one_23 rfl (k3.cell (k := 1) rfl)) ⟨Below.refl _ _, rfl⟩
              ·
                exact DV.dr (dv_off rfl) ⟨Below.refl _ _, rfl⟩
            refine DSteps.cons (fun Wd hd => ?_) ?_
            ·
              cases b26
              ·
                exact DV.dr (dx_move rfl rfl) ⟨Below.refl _ _, rfl⟩
              ·
                exact DV.dr (dv_off rfl) ⟨Below.refl _ _, rfl⟩
            refine DSteps.cons (fun Wd hd => ?_) ?_
            ·
              cases b26
              ·
                have h2 := h2.below hd
                exact (dx_idxF i rfl ty_slice_23 rfl rfl h2 (by omega) (at_map e25)).mono (fun v W' h => ⟨by rw [← h.1]; exact Below.refl _ _, fun _ => by rw [← h.1]; exact h.2⟩)
              ·
                exact DV.dr (dv_off rfl) ⟨Below.refl _ _, fun h => by cases h⟩
            refine DSteps.cons (fun Wd hd => ?_) ?_
            ·
              intro u6_11 p6_11
              cases b26
              ·
                replace p6_11 := p6_11 rfl
                exact (dx_fldP 1 rfl ty_fld_59_0_0 rfl p6_11 (cs' := [.int .i64 r24.1]) (by simp [encW, List.take_of_length_le, encS_len, Lr24]) (Nat.succ_pos _)).mono (fun v W' h => ⟨by rw [← h.1]; exact Below.refl _ _, fun _ => by rw [← h.1]; exact h.2⟩)
              ·
                exact DV.dr (dv_off rfl) ⟨Below.refl _ _, fun h => by cases h⟩
            refine DSteps.cons (fun Wd hd => ?_) ?_
            ·
              intro u6_12 p6_12
              cases b26
              ·
                replace p6_12 := p6_12 rfl
                exact DV.dr (dx_loadP rfl ty_one_3 rfl p6_12) ⟨Below.refl _ _, rfl⟩
              ·
                exact DV.dr (dv_off rfl) ⟨Below.refl _ _, rfl⟩
            refine DSteps.cons (fun Wd hd => ?_) ?_
            ·
              cases b26
              ·
                exact DV.dr (dx_fld (o1 := 0) rfl ty_fld_25_0_0 rfl rfl) ⟨Below.refl _ _, rfl⟩
              ·
                exact DV.dr (dv_off rfl) ⟨Below.refl _ _, rfl⟩
            refine DSteps.cons (fun Wd hd => ?_) ?_
            ·
              cases b26
              ·
                have k3 := k3.below hd
                exact DV.dr (dx_load rfl ty_one_22 rfl (k3.cell (k := 0) rfl)) ⟨Below.refl _ _, rfl⟩
              ·
                exact DV.dr (dv_off rfl) ⟨Below.refl _ _, rfl⟩
            refine DSteps.cons (fun Wd hd => ?_) ?_
            ·
              cases b26
              ·
                have h1 := h1.below hd
                exact DV.dr (dx_lenM rfl ty_slice_22 rfl h1) ⟨Below.refl _ _, rfl⟩
              ·
                exact DV.dr (dv_off rfl) ⟨Below.refl _ _, rfl⟩
            refine DSteps.cons (fun Wd hd => ?_) ?_
            ·
              cases b26
              ·
                exact DV.dr (dx_geq rfl rfl rfl) ⟨Below.refl _ _, rfl⟩
              ·
                exact DV.dr (dv_off rfl) ⟨Below.refl _ _, rfl⟩
            refine DSteps.cons (fun Wd hd => ?_) ?_
            ·
              cases b26
              ·
                exact DV.dr (dx_pick rfl rfl rfl) ⟨Below.refl _ _, rfl⟩
              ·
                exact DV.dr (dx_pick rfl rfl rfl) ⟨Below.refl _ _, rfl⟩
            exact trivial
          ·
            intro W27 b28
            intro u6_3 p6_3
            intro u6_4 p6_4
            intro _ _
            intro _ _
            replace h1 := h1.below b28
            replace h2 := h2.below b28
            replace k3 := k3.below b28
            replace hB := below_then hB b28
            replace hL := LL.below hL b28
            refine WL.nil ?_
            refine hK23 ?_
            refine WC.cond rfl (fun c29 => ?_) (fun c29 => ?_)
            ·
              refine WC.seq fun K30 hK30 => ?_
              refine WC.region ?_
              refine WL.val (dx_assign rfl rfl) rfl rfl ?_
              refine WL.nil ?_
              refine hK30 ?_
              refine WC.ret fun a_ ha_ => ?_
              exact hQ (cv_ret1 rfl (.tmp rfl) (by rw [right_bad e25 (has_no (by rw [hb26] at c29; simpa using c29))]) hB ha_)
            ·
              refine WC.skip ?_
              refine hK22 ?_
              refine WC.region ?_
              refine WL.val (dx_move rfl rfl) rfl rfl ?_
              refine WL.val (dx_add (r := (i : Int) + 1) rfl rfl rfl (wrap64_id (by omega))) rfl rfl ?_
              refine WL.val (dx_assign rfl rfl) rfl rfl ?_
              refine WL.nil ?_
              exact hK17 (i + 1) ⟨(by omega), (by rw [hv]; exact any_step e25 (by have hh : hasB secs r24.1 = true := has_yes (by have := (bor_f c29).1; rw [hb26] at this; exact of_decide_eq_false this) (of_decide_eq_false (bor_f c29).2); simp [hh])), hB, hL, h1, h2, k3⟩ (by omega) (by repeat first | exact trivial | exact And.intro rfl trivial | refine And.intro rfl ?_ | refine And.intro (congrArg (fun z : Int => some (Value.int .i64 z)) (by omega)) ?_)
        ·
          replace c21 := of_decide_eq_false c21
          refine WC.exit ?_
          refine hK15 ?_
          refine WC.seq fun K31 hK31 => ?_
          refine WC.region ?_
          refine WL.val (dx_assign rfl rfl) rfl rfl ?_
          refine WL.nil ?_
          refine hK31 ?_
          refine WC.ret fun a_ ha_ => ?_
          exact hQ (cv_ret1 rfl (.tmp rfl) (by rw [show rightD secs loose = true from (by unfold rightD; rw [hv, List.drop_eq_nil_of_le (by omega)]; simp [g9, g11, c13])]) hB ha_)

set_option maxHeartbeats 1000000 in
theorem rcopy_v (secs : List (List Int)) (loose : List (Int × List Int)) (fuse : Int) (down : Bool) (s1 s2 : Value) (w : World) (L : List Nat) (hL : LL L w) (h1 : RdF 128 L w s1 (secs.map encS)) (h2 : RdF 129 L w s2 (loose.map encW))  (hL0 : LL L w) (hsm : secs.length ≤ 2048) (hlm : loose.length ≤ 4096) : CV Try.prog 10 [.agg #[s1, s2, .int .i64 fuse, .bool down]] w fun v W => ∃ s1' s2', v = .agg #[s1', s2', .int .i64 fuse, .bool down] ∧ RdF 128 L W s1' (secs.map encS) ∧ RdF 129 L W s2' (loose.map encW) := by
  refine cv_enter (N := 14) (f := [(0, .agg #[s1, s2, .int .i64 fuse, .bool down])]) Try.func10 rfl rfl rfl rfl fun Q hQ hE => ?_
  have hB := Below.refl w.heap.size w
  have h1m : secs.length ≤ maxLen := by have := h1.len; rwa [List.length_map] at this
  unfold maxLen at h1m
  have h2m : loose.length ≤ maxLen := by have := h2.len; rwa [List.length_map] at this
  unfold maxLen at h2m
  refine WC.seq fun K1 hK1 => ?_
  refine WC.region ?_
  refine WL.get (dx_box rfl rfl rfl) rfl rfl ?_
  rintro _ W2 ⟨rfl, k3, b4, z5⟩
  have l6 := hB.size
  replace h1 := h1.more b4 (Nat.le_refl _)
  replace h2 := h2.more b4 (Nat.le_refl _)
  replace hB := below_then hB b4
  replace hL := LL.more hL z5
  refine WL.get (dx_alloc rfl ty_zero_25 rfl) rfl rfl ?_
  rintro _ W7 ⟨rfl, k8, b9, z10⟩
  have n11 : w.heap.size ≠ W2.heap.size := Nat.ne_of_lt k3.lt
  have l12 := hB.size
  replace h1 := h1.more b9 (Nat.le_refl _)
  replace h2 := h2.more b9 (Nat.le_refl _)
  replace k3 := k3.below b9
  replace hB := below_then hB b9
  replace hL := LL.more hL z10
  refine WL.nil ?_
  refine hK1 ?_
  refine WC.seq fun K13 hK13 => ?_
  refine WC.region ?_
  refine WL.get (dx_lit0 rfl ty_ap_22 (by decide)) rfl rfl ?_
  rintro u18 W14 ⟨k15, b16, z17⟩
  have n19 : w.heap.size ≠ W7.heap.size := Nat.ne_of_lt k3.lt
  have n20 : W2.heap.size ≠ W7.heap.size := Nat.ne_of_lt k8.lt
  have l21 := hB.size
  replace h1 := h1.more b16 (Nat.le_refl _)
  replace h2 := h2.more b16 (Nat.le_refl _)
  replace k3 := k3.below b16
  replace k8 := k8.below b16
  replace hB := below_then hB b16
  replace hL := LL.more hL z17
  refine WL.val (dx_fld (o1 := 0) rfl ty_fld_25_0_0 rfl rfl) rfl rfl ?_
  refine WL.val (dx_load rfl ty_one_22 rfl (k3.cell (k := 0) rfl)) rfl rfl ?_
  refine WL.get (dx_apO' (rs := []) (news := (secs.map encS)) rfl ty_ap_22 rfl rfl k15 h1 (oc_rows oc_S secs) (by simp; unfold maxLen; omega) (by simp; omega)) rfl rfl ?_
  rintro u25 W22 ⟨B26, k23, g24⟩
  have n27 : w.heap.size ≠ B26 := k3.grow_ne g24 n19
  have n28 : W2.heap.size ≠ B26 := k8.grow_ne g24 n20
  have l29 := g24.le l21 hB.size
  replace h1 := h1.grow' g24 (.head _)
  replace h2 := h2.grow' g24 (.head _)
  replace k3 := k3.grow g24 n19
  replace k8 := k8.grow g24 n20
  replace hB := g24.below hB l21 hB.size
  replace hL := LL.grow hL g24 k23.lt
  rw [List.nil_append] at k23
  refine WL.val (dx_fld (o1 := 0) rfl ty_fld_25_0_0 rfl rfl) rfl rfl ?_
  refine WL.do (dx_store (cs' := [u25, s2, .int .i64 fuse, .bool down]) (vs := [u25]) rfl ty_size_22_1 rfl rfl (oc_one k23.one) (oc_cons k23.one oc_nil) k3 rfl (Nat.le_of_ble_eq_true rfl) rfl) rfl ?_
  rintro _ W30 ⟨k32, o31⟩
  replace k8 := k8.other o31 n11.symm
  replace k23 := k23.other o31 n27.symm
  clear k3
  replace h1 := h1.only o31 (.tail _ (.tail _ (.tail _ (.head _))))
  replace h2 := h2.only o31 (.tail _ (.tail _ (.tail _ (.head _))))
  replace hB := o31.below hB l6
  replace hL := LL.only hL o31
  refine WL.nil ?_
  refine hK13 ?_
  refine WC.seq fun K33 hK33 => ?_
  refine WC.region ?_
  refine WL.get (dx_lit0 rfl ty_ap_23 (by decide)) rfl rfl ?_
  rintro u38 W34 ⟨k35, b36, z37⟩
  have n39 : w.heap.size ≠ W30.heap.size := Nat.ne_of_lt k32.lt
  have n40 : W2.heap.size ≠ W30.heap.size := Nat.ne_of_lt k8.lt
  have n41 : B26 ≠ W30.heap.size := Nat.ne_of_lt k23.lt
  have l42 := hB.size
  replace h1 := h1.more b36 (Nat.le_refl _)
  replace h2 := h2.more b36 (Nat.le_refl _)
  replace k32 := k32.below b36
  replace k8 := k8.below b36
  replace k23 := k23.below b36
  replace hB := below_then hB b36
  replace hL := LL.more hL z37
  refine WL.val (dx_fld (o1 := 1) rfl ty_fld_25_1_1 rfl rfl) rfl rfl ?_
  refine WL.val (dx_load rfl ty_one_23 rfl (k32.cell (k := 1) rfl)) rfl rfl ?_
  refine WL.get (dx_apO' (rs := []) (news := (loose.map encW)) rfl ty_ap_23 rfl rfl k35 h2 (oc_rows oc_W loose) (by simp; unfold maxLen; omega) (by simp; omega)) rfl rfl ?_
  rintro u46 W43 ⟨B47, k44, g45⟩
  have n48 : w.heap.size ≠ B47 := k32.grow_ne g45 n39
  have n49 : W2.heap.size ≠ B47 := k8.grow_ne g45 n40
  have n50 : B26 ≠ B47 := k23.grow_ne g45 n41
  have l51 := g45.le l42 hB.size
  replace h1 := h1.grow' g45 (.head _)
  replace h2 := h2.grow' g45 (.head _)
  replace k32 := k32.grow g45 n39
  replace k8 := k8.grow g45 n40
  replace k23 := k23.grow g45 n41
  replace hB := g45.below hB l42 hB.size
  replace hL := LL.grow hL g45 k44.lt
  rw [List.nil_append] at k44
  refine WL.val (dx_fld (o1 := 1) rfl ty_fld_25_1_1 rfl rfl) rfl rfl ?_
  refine WL.do (dx_store (cs' := [u25, u46, .int .i64 fuse, .bool down]) (vs := [u46]) rfl ty_size_23_1 rfl rfl (oc_one k44.one) (oc_cons k44.one oc_nil) k32 rfl (Nat.le_of_ble_eq_true rfl) rfl) rfl ?_
  rintro _ W52 ⟨k54, o53⟩
  replace k8 := k8.other o53 n11.symm
  replace k23 := k23.other o53 n27.symm
  replace k44 := k44.other o53 n48.symm
  clear k32
  replace h1 := h1.only o53 (.tail _ (.tail _ (.tail _ (.tail _ (.tail _ (.head _))))))
  replace h2 := h2.only o53 (.tail _ (.tail _ (.tail _ (.tail _ (.tail _ (.head _))))))
  replace hB := o53.below hB l6
  replace hL := LL.only hL o53
  refine WL.nil ?_
  refine hK33 ?_
  refine WC.seq fun K55 hK55 => ?_
  refine WC.region ?_
  refine WL.val (dx_loadN rfl ty_agg_25_4 rfl k54.range rfl) rfl rfl ?_
  refine WL.do (dx_store (cs' := [u25, u46, .int .i64 fuse, .bool down]) (vs := [u25, u46, .int .i64 fuse, .bool down]) rfl ty_size_25_4 rfl rfl rfl (oc_cons k23.one (oc_cons k44.one (oc_cons rfl (oc_cons rfl oc_nil)))) k8 rfl (Nat.le_of_ble_eq_true rfl) rfl) rfl ?_
  rintro _ W56 ⟨k58, o57⟩
  replace k54 := k54.other o57 n11
  replace k23 := k23.other o57 n28.symm
  replace k44 := k44.other o57 n49.symm
  clear k8
  replace h1 := h1.only o57 (.tail _ (.tail _ (.tail _ (.tail _ (.head _)))))
  replace h2 := h2.only o57 (.tail _ (.tail _ (.tail _ (.tail _ (.head _)))))
  replace hB := o57.below hB l12
  replace hL := LL.only hL o57
  refine WL.nil ?_
  refine hK55 ?_
  refine WC.ret fun a_ ha_ => ?_
  exact hQ (cv_ret1 rfl (.agg rfl ty_agg_25_4 k58.range rfl) ⟨_, _, rfl, (k23.notin hL0 l29), (k44.notin hL0 l51)⟩ hB ha_)

/-- A step of the reference: is there one left? -/
def stS (fuse : Int) (down : Bool) : Int × Bool × Bool := if down = true ∨ fuse = 0 then (fuse, true, false) else if 0 < fuse then (fuse - 1, down, true) else (fuse, down, true)
set_option maxHeartbeats 1000000 in
theorem step_v (secs : List (List Int)) (loose : List (Int × List Int)) (fuse : Int) (down : Bool) (s1 s2 : Value) (w : World) (L : List Nat) (hL : LL L w) (h1 : RdF 128 L w s1 (secs.map encS)) (h2 : RdF 129 L w s2 (loose.map encW))  (hfu : -9223372036854775808 ≤ fuse ∧ fuse ≤ 9223372036854775807) : CV Try.prog 30 [.agg #[s1, s2, .int .i64 fuse, .bool down]] w fun v W => v = .tuple #[.agg #[s1, s2, .int .i64 (stS fuse down).1, .bool (stS fuse down).2.1], .bool (stS fuse down).2.2] := by
  refine cv_enter (N := 21) (f := [(0, .agg #[s1, s2, .int .i64 fuse, .bool down])]) Try.func30 rfl rfl rfl rfl fun Q hQ hE => ?_
  have hB := Below.refl w.heap.size w
  have h1m : secs.length ≤ maxLen := by have := h1.len; rwa [List.length_map] at this
  unfold maxLen at h1m
  have h2m : loose.length ≤ maxLen := by have := h2.len; rwa [List.length_map] at this
  unfold maxLen at h2m
  refine WC.seq fun K1 hK1 => ?_
  refine WC.region ?_
  refine WL.get (dx_box rfl rfl rfl) rfl rfl ?_
  rintro _ W2 ⟨rfl, k3, b4, z5⟩
  have l6 := hB.size
  replace h1 := h1.more b4 (Nat.le_refl _)
  replace h2 := h2.more b4 (Nat.le_refl _)
  replace hB := below_then hB b4
  replace hL := LL.more hL z5
  refine WL.get (dx_alloc rfl ty_zero_25 rfl) rfl rfl ?_
  rintro _ W7 ⟨rfl, k8, b9, z10⟩
  have n11 : w.heap.size ≠ W2.heap.size := Nat.ne_of_lt k3.lt
  have l12 := hB.size
  replace h1 := h1.more b9 (Nat.le_refl _)
  replace h2 := h2.more b9 (Nat.le_refl _)
  replace k3 := k3.below b9
  replace hB := below_then hB b9
  replace hL := LL.more hL z10
  refine WL.val (dx_assign rfl rfl) rfl rfl ?_
  refine WL.nil ?_
  refine hK1 ?_
  refine WC.seq fun K13 hK13 => ?_
  refine WC.seq fun K14 hK14 => ?_
  refine WC.region ?_
  refine WL.val (dx_fld (o1 := 3) rfl ty_fld_25_3_3 rfl rfl) rfl rfl ?_
  refine WL.val (dx_load rfl ty_one_4 rfl (k3.cell (k := 3) rfl)) rfl rfl ?_
  refine WL.val (dx_move rfl rfl) rfl rfl ?_
  refine WL.split 6 rfl (fun g15 => ?_) (fun g15 => ?_)
  ·
    refine WL.off rfl rfl rfl ?_
    refine WL.off rfl rfl rfl ?_
    refine WL.off rfl rfl rfl ?_
    refine WL.val (dx_pick rfl rfl rfl) rfl rfl ?_
    refine WL.nil ?_
    refine hK14 ?_
    refine WC.condT rfl ?_
    refine WC.seq fun K16 hK16 => ?_
    refine WC.region ?_
    refine WL.val (dx_fld (o1 := 3) rfl ty_fld_25_3_3 rfl rfl) rfl rfl ?_
    refine WL.do (dx_store (cs' := [s1, s2, .int .i64 fuse, .bool true]) (vs := [.bool true]) rfl ty_size_4_1 rfl rfl rfl (oc_cons rfl oc_nil) k3 rfl (Nat.le_of_ble_eq_true rfl) rfl) rfl ?_
    rintro _ W17 ⟨k19, o18⟩
    replace k8 := k8.other o18 n11.symm
    clear k3
    replace h1 := h1.only o18 (.tail _ (.head _))
    replace h2 := h2.only o18 (.tail _ (.head _))
    replace hB := o18.below hB l6
    replace hL := LL.only hL o18
    refine WL.nil ?_
    refine hK16 ?_
    refine WC.seq fun K20 hK20 => ?_
    refine WC.region ?_
    refine WL.val (dx_loadN rfl ty_agg_25_4 rfl k19.range rfl) rfl rfl ?_
    refine WL.do (dx_store (cs' := [s1, s2, .int .i64 fuse, .bool true]) (vs := [s1, s2, .int .i64 fuse, .bool true]) rfl ty_size_25_4 rfl rfl rfl (oc_cons h1.one (oc_cons h2.one (oc_cons rfl (oc_cons rfl oc_nil)))) k8 rfl (Nat.le_of_ble_eq_true rfl) rfl) rfl ?_
    rintro _ W21 ⟨k23, o22⟩
    replace k19 := k19.other o22 n11
    clear k8
    replace h1 := h1.only o22 (.head _)
    replace h2 := h2.only o22 (.head _)
    replace hB := o22.below hB l12
    replace hL := LL.only hL o22
    refine WL.val (dx_assign rfl rfl) rfl rfl ?_
    refine WL.nil ?_
    refine hK20 ?_
    refine WC.ret fun a_ ha_ => ?_
    exact hQ (cv_ret2 rfl (.agg rfl ty_agg_25_4 k23.range rfl) (.tmp rfl) (by simp [stS, *]) hB ha_)
  ·
    replace g15 := bvar_f g15
    refine WL.val (dx_fld (o1 := 2) rfl ty_fld_25_2_2 rfl rfl) rfl rfl ?_
    refine WL.val (dx_load rfl ty_one_3 rfl (k3.cell (k := 2) rfl)) rfl rfl ?_
    refine WL.val (dx_eql rfl rfl rfl) rfl rfl ?_
    refine WL.val (dx_pick rfl rfl rfl) rfl rfl ?_
    refine WL.nil ?_
    refine hK14 ?_
    refine WC.cond rfl (fun c24 => ?_) (fun c24 => ?_)
    ·
      replace c24 := of_decide_eq_true c24
      refine WC.seq fun K25 hK25 => ?_
      refine WC.region ?_
      refine WL.val (dx_fld (o1 := 3) rfl ty_fld_25_3_3 rfl rfl) rfl rfl ?_
      refine WL.do (dx_store (cs' := [s1, s2, .int .i64 fuse, .bool true]) (vs := [.bool true]) rfl ty_size_4_1 rfl rfl rfl (oc_cons rfl oc_nil) k3 rfl (Nat.le_of_ble_eq_true rfl) rfl) rfl ?_
      rintro _ W26 ⟨k28, o27⟩
      replace k8 := k8.other o27 n11.symm
      clear k3
      replace h1 := h1.only o27 (.tail _ (.head _))
      replace h2 := h2.only o27 (.tail _ (.head _))
      replace hB := o27.below hB l6
      replace hL := LL.only hL o27
      refine WL.nil ?_
      refine hK25 ?_
      refine WC.seq fun K29 hK29 => ?_
      refine WC.region ?_
      refine WL.val (dx_loadN rfl ty_agg_25_4 rfl k28.range rfl) rfl rfl ?_
      refine WL.do (dx_store (cs' := [s1, s2, .int .i64 fuse, .bool true]) (vs := [s1, s2, .int .i64 fuse, .bool true]) rfl ty_size_25_4 rfl rfl rfl (oc_cons h1.one (oc_cons h2.one (oc_cons rfl (oc_cons rfl oc_nil)))) k8 rfl (Nat.le_of_ble_eq_true rfl) rfl) rfl ?_
      rintro _ W30 ⟨k32, o31⟩
      replace k28 := k28.other o31 n11
      clear k8
      replace h1 := h1.only o31 (.head _)
      replace h2 := h2.only o31 (.head _)
      replace hB := o31.below hB l12
      replace hL := LL.only hL o31
      refine WL.val (dx_assign rfl rfl) rfl rfl ?_
      refine WL.nil ?_
      refine hK29 ?_
      refine WC.ret fun a_ ha_ => ?_
      exact hQ (cv_ret2 rfl (.agg rfl ty_agg_25_4 k32.range rfl) (.tmp rfl) (by simp [stS, *]) hB ha_)
    ·
      replace c24 := of_decide_eq_false c24
      refine WC.skip ?_
      refine hK13 ?_
      refine WC.seq fun K33 hK33 => ?_
      refine WC.seq fun K34 hK34 => ?_
      refine WC.region ?_
      refine WL.val (dx_fld (o1 := 2) rfl ty_fld_25_2_2 rfl rfl) rfl rfl ?_
      refine WL.val (dx_load rfl ty_one_3 rfl (k3.cell (k := 2) rfl)) rfl rfl ?_
      refine WL.val (dx_gtr rfl rfl rfl) rfl rfl ?_
      refine WL.nil ?_
      refine hK34 ?_
      refine WC.cond rfl (fun c35 => ?_) (fun c35 => ?_)
      ·
        replace c35 := of_decide_eq_true c35
        refine WC.region ?_
        refine WL.val (dx_fld (o1 := 2) rfl ty_fld_25_2_2 rfl rfl) rfl rfl ?_
        refine WL.val (dx_load rfl ty_one_3 rfl (k3.cell (k := 2) rfl)) rfl rfl ?_
        refine WL.val (dx_sub (r := fuse - 1) rfl rfl rfl (wrap64_id (by omega))) rfl rfl ?_
        refine WL.val (dx_fld (o1 := 2) rfl ty_fld_25_2_2 rfl rfl) rfl rfl ?_
        refine WL.do (dx_store (cs' := [s1, s2, .int .i64 (fuse - 1), .bool down]) (vs := [.int .i64 (fuse - 1)]) rfl ty_size_3_1 rfl rfl rfl (oc_cons rfl oc_nil) k3 rfl (Nat.le_of_ble_eq_true rfl) rfl) rfl ?_
        rintro _ W36 ⟨k38, o37⟩
        replace k8 := k8.other o37 n11.symm
        clear k3
        replace h1 := h1.only o37 (.tail _ (.head _))
        replace h2 := h2.only o37 (.tail _ (.head _))
        replace hB := o37.below hB l6
        replace hL := LL.only hL o37
        refine WL.nil ?_
        refine hK33 ?_
        refine WC.seq fun K39 hK39 => ?_
        refine WC.region ?_
        refine WL.val (dx_loadN rfl ty_agg_25_4 rfl k38.range rfl) rfl rfl ?_
        refine WL.do (dx_store (cs' := [s1, s2, .int .i64 (fuse - 1), .bool down]) (vs := [s1, s2, .int .i64 (fuse - 1), .bool down]) rfl ty_size_25_4 rfl rfl rfl (oc_cons h1.one (oc_cons h2.one (oc_cons rfl (oc_cons rfl oc_nil)))) k8 rfl (Nat.le_of_ble_eq_true rfl) rfl) rfl ?_
        rintro _ W40 ⟨k42, o41⟩
        replace k38 := k38.other o41 n11
        clear k8
        replace h1 := h1.only o41 (.head _)
        replace h2 := h2.only o41 (.head _)
        replace hB := o41.below hB l12
        replace hL := LL.only hL o41
        refine WL.val (dx_assign rfl rfl) rfl rfl ?_
        refine WL.nil ?_
        refine hK39 ?_
        refine WC.ret fun a_ ha_ => ?_
        exact hQ (cv_ret2 rfl (.agg rfl ty_agg_25_4 k42.range rfl) (.tmp rfl) (by simp [stS, *]) hB ha_)
      ·
        replace c35 := of_decide_eq_false c35
        refine WC.skip ?_
        refine hK33 ?_
        refine WC.seq fun K43 hK43 => ?_
        refine WC.region ?_
        refine WL.val (dx_loadN rfl ty_agg_25_4 rfl k3.range rfl) rfl rfl ?_
        refine WL.do (dx_store (cs' := [s1, s2, .int .i64 fuse, .bool down]) (vs := [s1, s2, .int .i64 fuse, .bool down]) rfl ty_size_25_4 rfl rfl rfl (oc_cons h1.one (oc_cons h2.one (oc_cons rfl (oc_cons rfl oc_nil)))) k8 rfl (Nat.le_of_ble_eq_true rfl) rfl) rfl ?_
        rintro _ W44 ⟨k46, o45⟩
        replace k3 := k3.other o45 n11
        clear k8
        replace h1 := h1.only o45 (.head _)
        replace h2 := h2.only o45 (.head _)
        replace hB := o45.below hB l12
        replace hL := LL.only hL o45
        refine WL.val (dx_assign rfl rfl) rfl rfl ?_
        refine WL.nil ?_
        refine hK43 ?_
        refine WC.ret fun a_ ha_ => ?_
        exact hQ (cv_ret2 rfl (.agg rfl ty_agg_25_4 k46.range rfl) (.tmp rfl) (by simp [stS, *]) hB ha_)

def lookV (secs : List (List Int)) (loose : List (Int × List Int)) (a : Int) : List Int := match lookN loose a loose.length with
  | some z => z
  | none => secs[a.toNat]?.getD []
theorem lookV_len {L L' : List Nat} {w w' : World} {v v' : Value} {secs : List (List Int)} {loose : List (Int × List Int)} {a : Int} (h : RdF 128 L w v (secs.map encS)) (h2 : RdF 129 L' w' v' (loose.map encW)) (h3 : 0 ≤ a) (h4 : a < secs.length) : (lookV secs loose a).length = 128 := by
  unfold lookV
  split
  · rename_i z hz; exact lookN_len h2 a _ z hz
  · obtain ⟨x, hx⟩ : ∃ x, secs[a.toNat]? = some x := ⟨_, List.getElem?_eq_getElem (by omega)⟩
    rw [hx]
    exact rdf_S h hx
theorem read_bad {secs : List (List Int)} {loose : List (Int × List Int)} {down : Bool} {a : Int} (h : rightD secs loose = false ∨ a < 0 ∨ (secs.length : Int) ≤ a) : readS secs loose down a = (z0, 1) := by
  unfold readS
  rcases h with h | h
  · rw [if_pos h]
  · rw [has_no h]; simp
theorem read_dead {secs : List (List Int)} {loose : List (Int × List Int)} {down : Bool} {a : Int} (h : rightD secs loose = true) (h1 : ¬ a < 0) (h2 : ¬ (secs.length : Int) ≤ a) (h3 : down = true) : readS secs loose down a = (z0, 9) := by
  unfold readS
  rw [has_yes h1 h2]; simp [h, h3]
theorem read_well {secs : List (List Int)} {loose : List (Int × List Int)} {down : Bool} {a : Int} (h : rightD secs loose = true) (h1 : ¬ a < 0) (h2 : ¬ (secs.length : Int) ≤ a) (h3 : ¬ down = true) : readS secs loose down a = (lookV secs loose a, 0) := by
  unfold readS lookV
  rw [has_yes h1 h2]; simp [h, h3]
  cases lookN loose a loose.length <;> rfl
theorem write_bad {secs : List (List Int)} {loose : List (Int × List Int)} {fuse : Int} {down : Bool} {a : Int} {z : List Int} (h : rightD secs loose = false ∨ a < 0 ∨ (secs.length : Int) ≤ a) : writeS secs loose fuse down a z = ⟨secs, loose, fuse, down, 1⟩ := by
  unfold writeS
  rcases h with h | h
  · rw [if_pos h]
  · rw [has_no h]; simp
theorem write_full {secs : List (List Int)} {loose : List (Int × List Int)} {fuse : Int} {down : Bool} {a : Int} {z : List Int} (h : rightD secs loose = true) (h1 : ¬ a < 0) (h2 : ¬ (secs.length : Int) ≤ a) (h3 : ¬ down = true) (h4 : (loose.length : Int) = 4096) : writeS secs loose fuse down a z = ⟨secs, loose, fuse, down, 10⟩ := by
  unfold writeS
  rw [has_yes h1 h2, if_pos h4]; simp [h, h3]
theorem write_dead {secs : List (List Int)} {loose : List (Int × List Int)} {fuse : Int} {down : Bool} {a : Int} {z : List Int} (h : rightD secs loose = true) (h1 : ¬ a < 0) (h2 : ¬ (secs.length : Int) ≤ a) (h3 : down = true ∨ ¬ (loose.length : Int) = 4096) (hs : (stS fuse down).2.2 = false) : writeS secs loose fuse down a z = ⟨secs, loose, (stS fuse down).1, (stS fuse down).2.1, 9⟩ := by
  unfold writeS
  rw [has_yes h1 h2]
  by_cases hd : down = true
  · simp [h, hd, stS]
  · by_cases hf : fuse = 0
    · simp [h, hd, hf, stS, burnS, h3.resolve_left hd]
    · exfalso; simp [stS, hd, hf] at hs; split at hs <;> simp at hs
theorem write_well {secs : List (List Int)} {loose : List (Int × List Int)} {fuse : Int} {down : Bool} {a : Int} {z : List Int} (h : rightD secs loose = true) (h1 : ¬ a < 0) (h2 : ¬ (secs.length : Int) ≤ a) (h3 : down = true ∨ ¬ (loose.length : Int) = 4096) (hs : (stS fuse down).2.2 = true) : writeS secs loose fuse down a z = ⟨secs, loose ++ [(a, z)], (stS fuse down).1, (stS fuse down).2.1, 0⟩ := by
  unfold writeS
  rw [has_yes h1 h2]
  by_cases hd : down = true
  · simp [hd, stS] at hs
  · by_cases hf : fuse = 0
    · simp [hf, stS] at hs
    · by_cases hp : 0 < fuse <;> simp [h, hd, hf, hp, stS, burnS, h3.resolve_left hd]
theorem great_f {secs : List (List Int)} {loose : List (Int × List Int)} (h : greatD secs loose = false) : secs.length ≤ 100 ∧ loose.length ≤ 100 := by
  unfold greatD at h
  simp at h
  omega
set_option maxHeartbeats 1000000 in
theorem look_v (secs : List (List Int)) (loose : List (Int × List Int)) (fuse : Int) (down : Bool) (s1 s2 : Value) (a : Int) (w : World) (L : List Nat) (hL : LL L w) (h1 : RdF 128 L w s1 (secs.map encS)) (h2 : RdF 129 L w s2 (loose.map encW))  (hb1 : 0 ≤ a) (hb2 : a < secs.length) : CV Try.prog 31 [.agg #[s1, s2, .int .i64 fuse, .bool down], .int .i64 a] w fun v W => v = .agg (encS (lookV secs loose a)).toArray := by
  refine cv_enter (N := 33) (f := [(0, .agg #[s1, s2, .int .i64 fuse, .bool down]), (1, .int .i64 a)]) Try.func31 rfl rfl rfl rfl fun Q hQ hE => ?_
  have hB := Below.refl w.heap.size w
  have h1m : secs.length ≤ maxLen := by have := h1.len; rwa [List.length_map] at this
  unfold maxLen at h1m
  have h2m : loose.length ≤ maxLen := by have := h2.len; rwa [List.length_map] at this
  unfold maxLen at h2m
  refine WC.seq fun K1 hK1 => ?_
  refine WC.region ?_
  refine WL.get (dx_box rfl rfl rfl) rfl rfl ?_
  rintro _ W2 ⟨rfl, k3, b4, z5⟩
  have l6 := hB.size
  replace h1 := h1.more b4 (Nat.le_refl _)
  replace h2 := h2.more b4 (Nat.le_refl _)
  replace hB := below_then hB b4
  replace hL := LL.more hL z5
  refine WL.get (dx_alloc (cs := encS z0) rfl ty_zero_27 cells_z0) rfl rfl ?_
  rintro _ W7 ⟨rfl, k8, b9, z10⟩
  have n11 : w.heap.size ≠ W2.heap.size := Nat.ne_of_lt k3.lt
  have l12 := hB.size
  replace h1 := h1.more b9 (Nat.le_refl _)
  replace h2 := h2.more b9 (Nat.le_refl _)
  replace k3 := k3.below b9
  replace hB := below_then hB b9
  replace hL := LL.more hL z10
  refine WL.nil ?_
  refine hK1 ?_
  refine WC.seq fun K13 hK13 => ?_
  refine WC.seq fun K14 hK14 => ?_
  refine WC.region ?_
  refine WL.val (dx_fld (o1 := 1) rfl ty_fld_25_1_1 rfl rfl) rfl rfl ?_
  refine WL.val (dx_load rfl ty_one_23 rfl (k3.cell (k := 1) rfl)) rfl rfl ?_
  refine WL.val (dx_lenM rfl ty_slice_23 rfl h2) rfl rfl ?_
  refine WL.val (dx_sub (r := (loose.length : Int) - 1) rfl rfl rfl (wrap64_id (by omega))) rfl rfl ?_
  refine WL.val (dx_assign rfl rfl) rfl rfl ?_
  refine WL.nil ?_
  refine hK14 ?_
  refine WC.block ?_
  refine WC.loop (fun (n : Nat) => [(1, .int .i64 a), (2, .pointer (some ⟨w.heap.size, 0, none⟩)), (4, .pointer (some ⟨W2.heap.size, 0, none⟩)), (5, .int .i64 ((n : Int) - 1))]) (fun (n : Nat) W => n ≤ loose.length ∧ lookN loose a loose.length = lookN loose a n ∧ Below w.heap.size w W ∧ LL (W2.heap.size :: w.heap.size :: L) W ∧ RdF 128 (W2.heap.size :: w.heap.size :: L) W s1 (secs.map encS) ∧ RdF 129 (W2.heap.size :: w.heap.size :: L) W s2 (loose.map encW) ∧ Blk W w.heap.size [s1, s2, .int .i64 fuse, .bool down] ∧ Blk W W2.heap.size (encS z0)) (fun (n : Nat) => n) loose.length (by repeat first | exact trivial | exact And.intro rfl trivial | refine And.intro rfl ?_ | refine And.intro (congrArg (fun z : Int => some (Value.int .i64 z)) (by omega)) ?_) ⟨Nat.le_refl _, rfl, hB, hL, h1, h2, k3, k8⟩ ?_
  clear h1 h2 k3 k8 hB hL
  rintro K15 n W16 ⟨hi, hv, hB, hL, h1, h2, k3, k8⟩ hK15
  refine WC.seq fun K17 hK17 => ?_
  refine WC.seq fun K18 hK18 => ?_
  refine WC.region ?_
  refine WL.val (dx_move rfl rfl) rfl rfl ?_
  refine WL.val (dx_geq rfl rfl rfl) rfl rfl ?_
  refine WL.nil ?_
  refine hK18 ?_
  refine WC.cond rfl (fun c19 => ?_) (fun c19 => ?_)
  ·
    replace c19 := of_decide_eq_true c19
    refine WC.skip ?_
    refine hK17 ?_
    refine WC.seq fun K20 hK20 => ?_
    refine WC.block ?_
    refine WC.seq fun K21 hK21 => ?_
    refine WC.region ?_
    refine WL.val (dx_fld (o1 := 1) rfl ty_fld_25_1_1 rfl rfl) rfl rfl ?_
    refine WL.val (dx_load rfl ty_one_23 rfl (k3.cell (k := 1) rfl)) rfl rfl ?_
    refine WL.val (dx_move rfl rfl) rfl rfl ?_
    obtain ⟨r22, e23⟩ : ∃ x, loose[(n - 1)]? = some x := ⟨_, List.getElem?_eq_getElem (by omega)⟩
    have Lr22 := rdf_W h2 e23
    refine WL.get (dx_idxF (n - 1) rfl ty_slice_23 rfl rfl h2 (by omega) (at_map e23)) rfl rfl ?_
    rintro u24 _ ⟨rfl, p25⟩
    refine WL.get (dx_fldP 1 rfl ty_fld_59_0_0 rfl p25 (cs' := [.int .i64 r22.1]) (by simp [encW, List.take_of_length_le, encS_len, Lr22]) (Nat.succ_pos _)) rfl rfl ?_
    rintro u26 _ ⟨rfl, p27⟩
    refine WL.val (dx_loadP rfl ty_one_3 rfl p27) rfl rfl ?_
    refine WL.val (dx_move rfl rfl) rfl rfl ?_
    refine WL.val (dx_eql rfl rfl rfl) rfl rfl ?_
    refine WL.nil ?_
    refine hK21 ?_
    refine WC.cond rfl (fun c28 => ?_) (fun c28 => ?_)
    ·
      replace c28 := of_decide_eq_true c28
      refine WC.seq fun K29 hK29 => ?_
      refine WC.region ?_
      refine WL.val (dx_fld (o1 := 1) rfl ty_fld_25_1_1 rfl rfl) rfl rfl ?_
      refine WL.val (dx_load rfl ty_one_23 rfl (k3.cell (k := 1) rfl)) rfl rfl ?_
      refine WL.val (dx_move rfl rfl) rfl rfl ?_
      refine WL.get (dx_idxF (n - 1) rfl ty_slice_23 rfl rfl h2 (by omega) (at_map e23)) rfl rfl ?_
      rintro u30 _ ⟨rfl, p31⟩
      refine WL.get (dx_fldP 128 rfl ty_fld_59_1_1 rfl p31 (cs' := (encS r22.2)) (by simp [encW, List.take_of_length_le, encS_len, Lr22]) (by simp [encW, encS_len, Lr22])) rfl rfl ?_
      rintro u32 _ ⟨rfl, p33⟩
      refine WL.val (dx_loadPN rfl ty_agg_27_128 rfl p33 (by rw [encS_len]; exact Lr22)) rfl rfl ?_
      refine WL.do (dx_storeW (vs := (encS r22.2)) rfl ty_size_27_128 rfl rfl rfl (oc_S r22.2) k8 (by rw [encS_len]; exact Lr22) (by rw [encS_len]; exact z0_len)) rfl ?_
      rintro _ W34 ⟨k36, o35⟩
      replace k3 := k3.other o35 n11
      clear k8
      replace h1 := h1.only o35 (.head _)
      replace h2 := h2.only o35 (.head _)
      replace p31 := p31.only o35 (.head _)
      replace p33 := p33.only o35 (.head _)
      replace hB := o35.below hB l12
      replace hL := LL.only hL o35
      refine WL.nil ?_
      refine hK29 ?_
      refine WC.ret fun a_ ha_ => ?_
      exact hQ (cv_ret1 rfl (.agg rfl ty_agg_27_128 k36.range (by rw [encS_len]; exact Lr22)) (by rw [show lookV secs loose a = r22.2 from (by unfold lookV; rw [hv, show n = (n - 1) + 1 by omega, lookN_here e23 c28])]) hB ha_)
    ·
      replace c28 := of_decide_eq_false c28
      refine WC.skip ?_
      refine hK20 ?_
      refine WC.region ?_
      refine WL.val (dx_move rfl rfl) rfl rfl ?_
      refine WL.val (dx_sub (r := ((n : Int) - 1) - 1) rfl rfl rfl (wrap64_id (by omega))) rfl rfl ?_
      refine WL.val (dx_assign rfl rfl) rfl rfl ?_
      refine WL.nil ?_
      exact hK15 (n - 1) ⟨(by omega), (by rw [hv, show n = (n - 1) + 1 by omega]; exact lookN_next e23 c28), hB, hL, h1, h2, k3, k8⟩ (by omega) (by repeat first | exact trivial | exact And.intro rfl trivial | refine And.intro rfl ?_ | refine And.intro (congrArg (fun z : Int => some (Value.int .i64 z)) (by omega)) ?_)
  ·
    replace c19 := of_decide_eq_false c19
    refine WC.exit ?_
    refine hK13 ?_
    refine WC.seq fun K37 hK37 => ?_
    refine WC.region ?_
    refine WL.val (dx_fld (o1 := 0) rfl ty_fld_25_0_0 rfl rfl) rfl rfl ?_
    refine WL.val (dx_load rfl ty_one_22 rfl (k3.cell (k := 0) rfl)) rfl rfl ?_
    refine WL.val (dx_move rfl rfl) rfl rfl ?_
    obtain ⟨r38, e39⟩ : ∃ x, secs[a.toNat]? = some x := ⟨_, List.getElem?_eq_getElem (by omega)⟩
    have Lr38 := rdf_S h1 e39
    refine WL.get (dx_idxF a.toNat rfl ty_slice_22 rfl rfl h1 (by omega) (at_map e39)) rfl rfl ?_
    rintro u40 _ ⟨rfl, p41⟩
    refine WL.val (dx_loadPN rfl ty_agg_27_128 rfl p41 (by rw [encS_len]; exact Lr38)) rfl rfl ?_
    refine WL.do (dx_storeW (vs := (encS r38)) rfl ty_size_27_128 rfl rfl rfl (oc_S r38) k8 (by rw [encS_len]; exact Lr38) (by rw [encS_len]; exact z0_len)) rfl ?_
    rintro _ W42 ⟨k44, o43⟩
    replace k3 := k3.other o43 n11
    clear k8
    replace h1 := h1.only o43 (.head _)
    replace h2 := h2.only o43 (.head _)
    replace p41 := p41.only o43 (.head _)
    replace hB := o43.below hB l12
    replace hL := LL.only hL o43
    refine WL.nil ?_
    refine hK37 ?_
    refine WC.ret fun a_ ha_ => ?_
    exact hQ (cv_ret1 rfl (.agg rfl ty_agg_27_128 k44.range (by rw [encS_len]; exact Lr38)) (by rw [show lookV secs loose a = r38 from (by unfold lookV; rw [hv, show n = 0 by omega]; simp [lookN, e39])]) hB ha_)

set_option maxHeartbeats 1000000 in
theorem rread_v (secs : List (List Int)) (loose : List (Int × List Int)) (fuse : Int) (down : Bool) (s1 s2 : Value) (a : Int) (w : World) (L : List Nat) (hL : LL L w) (h1 : RdF 128 L w s1 (secs.map encS)) (h2 : RdF 129 L w s2 (loose.map encW)) : CV Try.prog 14 [.agg #[s1, s2, .int .i64 fuse, .bool down], .int .i64 a] w fun v W => v = .tuple #[.agg (encS (readS secs loose down a).1).toArray, .int .i64 (readS secs loose down a).2] := by
  refine cv_enter (N := 27) (f := [(0, .agg #[s1, s2, .int .i64 fuse, .bool down]), (1, .int .i64 a)]) Try.func14 rfl rfl rfl rfl fun Q hQ hE => ?_
  have hB := Below.refl w.heap.size w
  have h1m : secs.length ≤ maxLen := by have := h1.len; rwa [List.length_map] at this
  unfold maxLen at h1m
  have h2m : loose.length ≤ maxLen := by have := h2.len; rwa [List.length_map] at this
  unfold maxLen at h2m
  refine WC.seq fun K1 hK1 => ?_
  refine WC.region ?_
  refine WL.get (dx_box rfl rfl rfl) rfl rfl ?_
  rintro _ W2 ⟨rfl, k3, b4, z5⟩
  have l6 := hB.size
  replace h1 := h1.more b4 (Nat.le_refl _)
  replace h2 := h2.more b4 (Nat.le_refl _)
  replace hB := below_then hB b4
  replace hL := LL.more hL z5
  refine WL.get (dx_alloc (cs := encS z0) rfl ty_zero_27 cells_z0) rfl rfl ?_
  rintro _ W7 ⟨rfl, k8, b9, z10⟩
  have n11 : w.heap.size ≠ W2.heap.size := Nat.ne_of_lt k3.lt
  have l12 := hB.size
  replace h1 := h1.more b9 (Nat.le_refl _)
  replace h2 := h2.more b9 (Nat.le_refl _)
  replace k3 := k3.below b9
  replace hB := below_then hB b9
  replace hL := LL.more hL z10
  refine WL.val (dx_assign rfl rfl) rfl rfl ?_
  refine WL.nil ?_
  refine hK1 ?_
  refine WC.seq fun K13 hK13 => ?_
  refine WC.seq fun K14 hK14 => ?_
  refine WC.region ?_
  refine WL.val (dx_loadN rfl ty_agg_25_4 rfl k3.range rfl) rfl rfl ?_
  refine WL.get (dx_cv rfl Try.func17 rfl rfl rfl (rright_v secs loose fuse down _ _ W7 _ hL h1 h2)) rfl rfl ?_
  rintro _ W16 ⟨rfl, b15⟩
  replace h1 := h1.below b15
  replace h2 := h2.below b15
  replace k3 := k3.below b15
  replace k8 := k8.below b15
  replace hB := below_then hB b15
  replace hL := LL.below hL b15
  refine WL.val (dx_not rfl rfl) rfl rfl ?_
  refine WL.val (dx_move rfl rfl) rfl rfl ?_
  refine WL.split 9 rfl (fun g17 => ?_) (fun g17 => ?_)
  ·
    replace g17 := bnot_t g17
    refine WL.off rfl rfl rfl ?_
    refine WL.off rfl rfl rfl ?_
    refine WL.val (dx_pick rfl rfl rfl) rfl rfl ?_
    refine WL.val (dx_move rfl rfl) rfl rfl ?_
    refine WL.off rfl rfl rfl ?_
    refine WL.off rfl rfl rfl ?_
    refine WL.off rfl rfl rfl ?_
    refine WL.off rfl rfl rfl ?_
    refine WL.off rfl rfl rfl ?_
    refine WL.val (dx_pick rfl rfl rfl) rfl rfl ?_
    refine WL.nil ?_
    refine hK14 ?_
    refine WC.condT rfl ?_
    refine WC.seq fun K18 hK18 => ?_
    refine WC.region ?_
    refine WL.val (dx_build rfl rfl builtS0) rfl rfl ?_
    refine WL.do (dx_storeW (vs := (encS z0)) rfl ty_size_27_128 rfl rfl rfl (oc_S z0) k8 (by rw [encS_len]; exact z0_len) (by rw [encS_len]; exact z0_len)) rfl ?_
    rintro _ W19 ⟨k21, o20⟩
    replace k3 := k3.other o20 n11
    clear k8
    replace h1 := h1.only o20 (.head _)
    replace h2 := h2.only o20 (.head _)
    replace hB := o20.below hB l12
    replace hL := LL.only hL o20
    refine WL.val (dx_assign rfl rfl) rfl rfl ?_
    refine WL.nil ?_
    refine hK18 ?_
    refine WC.ret fun a_ ha_ => ?_
    exact hQ (cv_ret2 rfl (.agg rfl ty_agg_27_128 k21.range (by rw [encS_len]; exact z0_len)) (.tmp rfl) (by rw [read_bad (by first | assumption | (simp_all; done) | omega)]) hB ha_)
  ·
    replace g17 := bnot_f g17
    refine WL.val (dx_move rfl rfl) rfl rfl ?_
    refine WL.val (dx_lss rfl rfl rfl) rfl rfl ?_
    refine WL.val (dx_pick rfl rfl rfl) rfl rfl ?_
    refine WL.val (dx_move rfl rfl) rfl rfl ?_
    refine WL.split 13 rfl (fun g22 => ?_) (fun g22 => ?_)
    ·
      replace g22 := of_decide_eq_true g22
      refine WL.off rfl rfl rfl ?_
      refine WL.off rfl rfl rfl ?_
      refine WL.off rfl rfl rfl ?_
      refine WL.off rfl rfl rfl ?_
      refine WL.off rfl rfl rfl ?_
      refine WL.val (dx_pick rfl rfl rfl) rfl rfl ?_
      refine WL.nil ?_
      refine hK14 ?_
      refine WC.condT rfl ?_
      refine WC.seq fun K23 hK23 => ?_
      refine WC.region ?_
      refine WL.val (dx_build rfl rfl builtS0) rfl rfl ?_
      refine WL.do (dx_storeW (vs := (encS z0)) rfl ty_size_27_128 rfl rfl rfl (oc_S z0) k8 (by rw [encS_len]; exact z0_len) (by rw [encS_len]; exact z0_len)) rfl ?_
      rintro _ W24 ⟨k26, o25⟩
      replace k3 := k3.other o25 n11
      clear k8
      replace h1 := h1.only o25 (.head _)
      replace h2 := h2.only o25 (.head _)
      replace hB := o25.below hB l12
      replace hL := LL.only hL o25
      refine WL.val (dx_assign rfl rfl) rfl rfl ?_
      refine WL.nil ?_
      refine hK23 ?_
      refine WC.ret fun a_ ha_ => ?_
      exact hQ (cv_ret2 rfl (.agg rfl ty_agg_27_128 k26.range (by rw [encS_len]; exact z0_len)) (.tmp rfl) (by rw [read_bad (by first | assumption | (simp_all; done) | omega)]) hB ha_)
    ·
      replace g22 := of_decide_eq_false g22
      refine WL.val (dx_move rfl rfl) rfl rfl ?_
      refine WL.val (dx_fld (o1 := 0) rfl ty_fld_25_0_0 rfl rfl) rfl rfl ?_
      refine WL.val (dx_load rfl ty_one_22 rfl (k3.cell (k := 0) rfl)) rfl rfl ?_
      refine WL.val (dx_lenM rfl ty_slice_22 rfl h1) rfl rfl ?_
      refine WL.val (dx_geq rfl rfl rfl) rfl rfl ?_
      refine WL.val (dx_pick rfl rfl rfl) rfl rfl ?_
      refine WL.nil ?_
      refine hK14 ?_
      refine WC.cond rfl (fun c27 => ?_) (fun c27 => ?_)
      ·
        replace c27 := of_decide_eq_true c27
        refine WC.seq fun K28 hK28 => ?_
        refine WC.region ?_
        refine WL.val (dx_build rfl rfl builtS0) rfl rfl ?_
        refine WL.do (dx_storeW (vs := (encS z0)) rfl ty_size_27_128 rfl rfl rfl (oc_S z0) k8 (by rw [encS_len]; exact z0_len) (by rw [encS_len]; exact z0_len)) rfl ?_
        rintro _ W29 ⟨k31, o30⟩
        replace k3 := k3.other o30 n11
        clear k8
        replace h1 := h1.only o30 (.head _)
        replace h2 := h2.only o30 (.head _)
        replace hB := o30.below hB l12
        replace hL := LL.only hL o30
        refine WL.val (dx_assign rfl rfl) rfl rfl ?_
        refine WL.nil ?_
        refine hK28 ?_
        refine WC.ret fun a_ ha_ => ?_
        exact hQ (cv_ret2 rfl (.agg rfl ty_agg_27_128 k31.range (by rw [encS_len]; exact z0_len)) (.tmp rfl) (by rw [read_bad (by first | assumption | (simp_all; done) | omega)]) hB ha_)
      ·
        replace c27 := of_decide_eq_false c27
        refine WC.skip ?_
        refine hK13 ?_
        refine WC.seq fun K32 hK32 => ?_
        refine WC.seq fun K33 hK33 => ?_
        refine WC.region ?_
        refine WL.val (dx_fld (o1 := 3) rfl ty_fld_25_3_3 rfl rfl) rfl rfl ?_
        refine WL.val (dx_load rfl ty_one_4 rfl (k3.cell (k := 3) rfl)) rfl rfl ?_
        refine WL.nil ?_
        refine hK33 ?_
        refine WC.cond rfl (fun c34 => ?_) (fun c34 => ?_)
        ·
          refine WC.seq fun K35 hK35 => ?_
          refine WC.region ?_
          refine WL.val (dx_build rfl rfl builtS0) rfl rfl ?_
          refine WL.do (dx_storeW (vs := (encS z0)) rfl ty_size_27_128 rfl rfl rfl (oc_S z0) k8 (by rw [encS_len]; exact z0_len) (by rw [encS_len]; exact z0_len)) rfl ?_
          rintro _ W36 ⟨k38, o37⟩
          replace k3 := k3.other o37 n11
          clear k8
          replace h1 := h1.only o37 (.head _)
          replace h2 := h2.only o37 (.head _)
          replace hB := o37.below hB l12
          replace hL := LL.only hL o37
          refine WL.val (dx_assign rfl rfl) rfl rfl ?_
          refine WL.nil ?_
          refine hK35 ?_
          refine WC.ret fun a_ ha_ => ?_
          exact hQ (cv_ret2 rfl (.agg rfl ty_agg_27_128 k38.range (by rw [encS_len]; exact z0_len)) (.tmp rfl) (by rw [read_dead (by first | assumption | (simp_all; done) | omega) (by first | assumption | (simp_all; done) | omega) (by first | assumption | (simp_all; done) | omega) (by first | assumption | (simp_all; done) | omega)]) hB ha_)
        ·
          replace c34 := bvar_f c34
          refine WC.skip ?_
          refine hK32 ?_
          refine WC.seq fun K39 hK39 => ?_
          refine WC.region ?_
          refine WL.val (dx_loadN rfl ty_agg_25_4 rfl k3.range rfl) rfl rfl ?_
          refine WL.val (dx_move rfl rfl) rfl rfl ?_
          refine WL.get (dx_cv rfl Try.func31 rfl rfl rfl (look_v secs loose fuse down _ _ a W16 _ hL h1 h2 (by omega) (by omega))) rfl rfl ?_
          rintro _ W41 ⟨rfl, b40⟩
          replace h1 := h1.below b40
          replace h2 := h2.below b40
          replace k3 := k3.below b40
          replace k8 := k8.below b40
          replace hB := below_then hB b40
          replace hL := LL.below hL b40
          refine WL.do (dx_storeW (vs := (encS (lookV secs loose a))) rfl ty_size_27_128 rfl rfl rfl (oc_S (lookV secs loose a)) k8 (by rw [encS_len]; exact (lookV_len h1 h2 (by omega) (by omega))) (by rw [encS_len]; exact z0_len)) rfl ?_
          rintro _ W42 ⟨k44, o43⟩
          replace k3 := k3.other o43 n11
          clear k8
          replace h1 := h1.only o43 (.head _)
          replace h2 := h2.only o43 (.head _)
          replace hB := o43.below hB l12
          replace hL := LL.only hL o43
          refine WL.val (dx_assign rfl rfl) rfl rfl ?_
          refine WL.nil ?_
          refine hK39 ?_
          refine WC.ret fun a_ ha_ => ?_
          exact hQ (cv_ret2 rfl (.agg rfl ty_agg_27_128 k44.range (by rw [encS_len]; exact (lookV_len h1 h2 (by omega) (by omega)))) (.tmp rfl) (by rw [read_well (by first | assumption | (simp_all; done) | omega) (by first | assumption | (simp_all; done) | omega) (by first | assumption | (simp_all; done) | omega) (by first | assumption | (simp_all; done) | omega)]) hB ha_)

set_option maxHeartbeats 1000000 in
theorem rwrite_v (secs : List (List Int)) (loose : List (Int × List Int)) (fuse : Int) (down : Bool) (s1 s2 : Value) (a : Int) (z : List Int) (w : World) (L : List Nat) (hL : LL L w) (h1 : RdF 128 L w s1 (secs.map encS)) (h2 : RdF 129 L w s2 (loose.map encW))  (hL0 : LL L w) (hfu : -9223372036854775808 ≤ fuse ∧ fuse ≤ 9223372036854775807) (hz : z.length = 128) : CV Try.prog 12 [.agg #[s1, s2, .int .i64 fuse, .bool down], .int .i64 a, .agg (encS z).toArray] w fun v W => ∃ s1' s2', v = .tuple #[.agg #[s1', s2', .int .i64 (writeS secs loose fuse down a z).fuse, .bool (writeS secs loose fuse down a z).down], .int .i64 (writeS secs loose fuse down a z).err] ∧ RdF 128 L W s1' ((writeS secs loose fuse down a z).secs.map encS) ∧ RdF 129 L W s2' ((writeS secs loose fuse down a z).loose.map encW) := by
  refine cv_enter (N := 54) (f := [(0, .agg #[s1, s2, .int .i64 fuse, .bool down]), (1, .int .i64 a), (2, .agg (encS z).toArray)]) Try.func12 rfl rfl rfl rfl fun Q hQ hE => ?_
  have hB := Below.refl w.heap.size w
  have h1m : secs.length ≤ maxLen := by have := h1.len; rwa [List.length_map] at this
  unfold maxLen at h1m
  have h2m : loose.length ≤ maxLen := by have := h2.len; rwa [List.length_map] at this
  unfold maxLen at h2m
  refine WC.seq fun K1 hK1 => ?_
  refine WC.region ?_
  refine WL.get (dx_box rfl rfl rfl) rfl rfl ?_
  rintro _ W2 ⟨rfl, k3, b4, z5⟩
  have l6 := hB.size
  replace h1 := h1.more b4 (Nat.le_refl _)
  replace h2 := h2.more b4 (Nat.le_refl _)
  replace hB := below_then hB b4
  replace hL := LL.more hL z5
  refine WL.get (dx_box (cs := (encS z)) rfl rfl rfl) rfl rfl ?_
  rintro _ W7 ⟨rfl, k8, b9, z10⟩
  have n11 : w.heap.size ≠ W2.heap.size := Nat.ne_of_lt k3.lt
  have l12 := hB.size
  replace h1 := h1.more b9 (Nat.le_refl _)
  replace h2 := h2.more b9 (Nat.le_refl _)
  replace k3 := k3.below b9
  replace hB := below_then hB b9
  replace hL := LL.more hL z10
  refine WL.get (dx_alloc rfl ty_zero_25 rfl) rfl rfl ?_
  rintro _ W13 ⟨rfl, k14, b15, z16⟩
  have n17 : w.heap.size ≠ W7.heap.size := Nat.ne_of_lt k3.lt
  have n18 : W2.heap.size ≠ W7.heap.size := Nat.ne_of_lt k8.lt
  have l19 := hB.size
  replace h1 := h1.more b15 (Nat.le_refl _)
  replace h2 := h2.more b15 (Nat.le_refl _)
  replace k3 := k3.below b15
  replace k8 := k8.below b15
  replace hB := below_then hB b15
  replace hL := LL.more hL z16
  refine WL.val (dx_assign rfl rfl) rfl rfl ?_
  refine WL.nil ?_
  refine hK1 ?_
  refine WC.seq fun K20 hK20 => ?_
  refine WC.seq fun K21 hK21 => ?_
  refine WC.region ?_
  refine WL.val (dx_loadN rfl ty_agg_25_4 rfl k3.range rfl) rfl rfl ?_
  refine WL.get (dx_cv rfl Try.func17 rfl rfl rfl (rright_v secs loose fuse down _ _ W13 _ hL h1 h2)) rfl rfl ?_
  rintro _ W23 ⟨rfl, b22⟩
  replace h1 := h1.below b22
  replace h2 := h2.below b22
  replace k3 := k3.below b22
  replace k8 := k8.below b22
  replace k14 := k14.below b22
  replace hB := below_then hB b22
  replace hL := LL.below hL b22
  refine WL.val (dx_not rfl rfl) rfl rfl ?_
  refine WL.val (dx_move rfl rfl) rfl rfl ?_
  refine WL.split 13 rfl (fun g24 => ?_) (fun g24 => ?_)
  ·
    replace g24 := bnot_t g24
    refine WL.off rfl rfl rfl ?_
    refine WL.off rfl rfl rfl ?_
    refine WL.val (dx_pick rfl rfl rfl) rfl rfl ?_
    refine WL.val (dx_move rfl rfl) rfl rfl ?_
    refine WL.off rfl rfl rfl ?_
    refine WL.off rfl rfl rfl ?_
    refine WL.off rfl rfl rfl ?_
    refine WL.off rfl rfl rfl ?_
    refine WL.off rfl rfl rfl ?_
    refine WL.val (dx_pick rfl rfl rfl) rfl rfl ?_
    refine WL.nil ?_
    refine hK21 ?_
    refine WC.condT rfl ?_
    refine WC.seq fun K25 hK25 => ?_
    refine WC.region ?_
    refine WL.val (dx_loadN rfl ty_agg_25_4 rfl k3.range rfl) rfl rfl ?_
    refine WL.do (dx_store (cs' := [s1, s2, .int .i64 fuse, .bool down]) (vs := [s1, s2, .int .i64 fuse, .bool down]) rfl ty_size_25_4 rfl rfl rfl (oc_cons h1.one (oc_cons h2.one (oc_cons rfl (oc_cons rfl oc_nil)))) k14 rfl (Nat.le_of_ble_eq_true rfl) rfl) rfl ?_
    rintro _ W26 ⟨k28, o27⟩
    replace k3 := k3.other o27 n17
    replace k8 := k8.other o27 n18
    clear k14
    replace h1 := h1.only o27 (.head _)
    replace h2 := h2.only o27 (.head _)
    replace hB := o27.below hB l19
    replace hL := LL.only hL o27
    refine WL.val (dx_assign rfl rfl) rfl rfl ?_
    refine WL.nil ?_
    refine hK25 ?_
    refine WC.ret fun a_ ha_ => ?_
    exact hQ (cv_ret2 rfl (.agg rfl ty_agg_25_4 k28.range rfl) (.tmp rfl) (by rw [write_bad (by first | assumption | (simp_all; done) | omega)]; exact ⟨_, _, rfl, (h1.less (fun x hx => (.tail _ (.tail _ (.tail _ hx))))), (h2.less (fun x hx => (.tail _ (.tail _ (.tail _ hx)))))⟩) hB ha_)
  ·
    replace g24 := bnot_f g24
    have hr := right_of g24; obtain ⟨hne, hsm, hlm, hrt⟩ := hr
    refine WL.val (dx_move rfl rfl) rfl rfl ?_
    refine WL.val (dx_lss rfl rfl rfl) rfl rfl ?_
    refine WL.val (dx_pick rfl rfl rfl) rfl rfl ?_
    refine WL.val (dx_move rfl rfl) rfl rfl ?_
    refine WL.split 17 rfl (fun g29 => ?_) (fun g29 => ?_)
    ·
      replace g29 := of_decide_eq_true g29
      refine WL.off rfl rfl rfl ?_
      refine WL.off rfl rfl rfl ?_
      refine WL.off rfl rfl rfl ?_
      refine WL.off rfl rfl rfl ?_
      refine WL.off rfl rfl rfl ?_
      refine WL.val (dx_pick rfl rfl rfl) rfl rfl ?_
      refine WL.nil ?_
      refine hK21 ?_
      refine WC.condT rfl ?_
      refine WC.seq fun K30 hK30 => ?_
      refine WC.region ?_
      refine WL.val (dx_loadN rfl ty_agg_25_4 rfl k3.range rfl) rfl rfl ?_
      refine WL.do (dx_store (cs' := [s1, s2, .int .i64 fuse, .bool down]) (vs := [s1, s2, .int .i64 fuse, .bool down]) rfl ty_size_25_4 rfl rfl rfl (oc_cons h1.one (oc_cons h2.one (oc_cons rfl (oc_cons rfl oc_nil)))) k14 rfl (Nat.le_of_ble_eq_true rfl) rfl) rfl ?_
      rintro _ W31 ⟨k33, o32⟩
      replace k3 := k3.other o32 n17
      replace k8 := k8.other o32 n18
      clear k14
      replace h1 := h1.only o32 (.head _)
      replace h2 := h2.only o32 (.head _)
      replace hB := o32.below hB l19
      replace hL := LL.only hL o32
      refine WL.val (dx_assign rfl rfl) rfl rfl ?_
      refine WL.nil ?_
      refine hK30 ?_
      refine WC.ret fun a_ ha_ => ?_
      exact hQ (cv_ret2 rfl (.agg rfl ty_agg_25_4 k33.range rfl) (.tmp rfl) (by rw [write_bad (by first | assumption | (simp_all; done) | omega)]; exact ⟨_, _, rfl, (h1.less (fun x hx => (.tail _ (.tail _ (.tail _ hx))))), (h2.less (fun x hx => (.tail _ (.tail _ (.tail _ hx)))))⟩) hB ha_)
    ·
      replace g29 := of_decide_eq_false g29
      refine WL.val (dx_move rfl rfl) rfl rfl ?_
      refine WL.val (dx_fld (o1 := 0) rfl ty_fld_25_0_0 rfl rfl) rfl rfl ?_
      refine WL.val (dx_load rfl ty_one_22 rfl (k3.cell (k := 0) rfl)) rfl rfl ?_
      refine WL.val (dx_lenM rfl ty_slice_22 rfl h1) rfl rfl ?_
      refine WL.val (dx_geq rfl rfl rfl) rfl rfl ?_
      refine WL.val (dx_pick rfl rfl rfl) rfl rfl ?_
      refine WL.nil ?_
      refine hK21 ?_
      refine WC.cond rfl (fun c34 => ?_) (fun c34 => ?_)
      ·
        replace c34 := of_decide_eq_true c34
        refine WC.seq fun K35 hK35 => ?_
        refine WC.region ?_
        refine WL.val (dx_loadN rfl ty_agg_25_4 rfl k3.range rfl) rfl rfl ?_
        refine WL.do (dx_store (cs' := [s1, s2, .int .i64 fuse, .bool down]) (vs := [s1, s2, .int .i64 fuse, .bool down]) rfl ty_size_25_4 rfl rfl rfl (oc_cons h1.one (oc_cons h2.one (oc_cons rfl (oc_cons rfl oc_nil)))) k14 rfl (Nat.le_of_ble_eq_true rfl) rfl) rfl ?_
        rintro _ W36 ⟨k38, o37⟩
        replace k3 := k3.other o37 n17
        replace k8 := k8.other o37 n18
        clear k14
        replace h1 := h1.only o37 (.head _)
        replace h2 := h2.only o37 (.head _)
        replace hB := o37.below hB l19
        replace hL := LL.only hL o37
        refine WL.val (dx_assign rfl rfl) rfl rfl ?_
        refine WL.nil ?_
        refine hK35 ?_
        refine WC.ret fun a_ ha_ => ?_
        exact hQ (cv_ret2 rfl (.agg rfl ty_agg_25_4 k38.range rfl) (.tmp rfl) (by rw [write_bad (by first | assumption | (simp_all; done) | omega)]; exact ⟨_, _, rfl, (h1.less (fun x hx => (.tail _ (.tail _ (.tail _ hx))))), (h2.less (fun x hx => (.tail _ (.tail _ (.tail _ hx)))))⟩) hB ha_)
      ·
        replace c34 := of_decide_eq_false c34
        refine WC.skip ?_
        refine hK20 ?_
        refine WC.seq fun K39 hK39 => ?_
        refine WC.seq fun K40 hK40 => ?_
        refine WC.region ?_
        refine WL.val (dx_fld (o1 := 3) rfl ty_fld_25_3_3 rfl rfl) rfl rfl ?_
        refine WL.val (dx_load rfl ty_one_4 rfl (k3.cell (k := 3) rfl)) rfl rfl ?_
        refine WL.val (dx_not rfl rfl) rfl rfl ?_
        refine WL.val (dx_move rfl rfl) rfl rfl ?_
        refine WL.split 28 rfl (fun g41 => ?_) (fun g41 => ?_)
        ·
          replace g41 := bnot_t g41
          replace g41 := bvar_f g41
          refine WL.val (dx_fld (o1 := 1) rfl ty_fld_25_1_1 rfl rfl) rfl rfl ?_
          refine WL.val (dx_load rfl ty_one_23 rfl (k3.cell (k := 1) rfl)) rfl rfl ?_
          refine WL.val (dx_lenM rfl ty_slice_23 rfl h2) rfl rfl ?_
          refine WL.val (dx_eql rfl rfl rfl) rfl rfl ?_
          refine WL.val (dx_pick rfl rfl rfl) rfl rfl ?_
          refine WL.nil ?_
          refine hK40 ?_
          refine WC.cond rfl (fun c42 => ?_) (fun c42 => ?_)
          ·
            replace c42 := of_decide_eq_true c42
            refine WC.seq fun K43 hK43 => ?_
            refine WC.region ?_
            refine WL.val (dx_loadN rfl ty_agg_25_4 rfl k3.range rfl) rfl rfl ?_
            refine WL.do (dx_store (cs' := [s1, s2, .int .i64 fuse, .bool down]) (vs := [s1, s2, .int .i64 fuse, .bool down]) rfl ty_size_25_4 rfl rfl rfl (oc_cons h1.one (oc_cons h2.one (oc_cons rfl (oc_cons rfl oc_nil)))) k14 rfl (Nat.le_of_ble_eq_true rfl) rfl) rfl ?_
            rintro _ W44 ⟨k46, o45⟩
            replace k3 := k3.other o45 n17
            replace k8 := k8.other o45 n18
            clear k14
            replace h1 := h1.only o45 (.head _)
            replace h2 := h2.only o45 (.head _)
            replace hB := o45.below hB l19
            replace hL := LL.only hL o45
            refine WL.val (dx_assign rfl rfl) rfl rfl ?_
            refine WL.nil ?_
            refine hK43 ?_
            refine WC.ret fun a_ ha_ => ?_
            exact hQ (cv_ret2 rfl (.agg rfl ty_agg_25_4 k46.range rfl) (.tmp rfl) (by rw [write_full (by first | assumption | (simp_all; done) | omega) (by first | assumption | (simp_all; done) | omega) (by first | assumption | (simp_all; done) | omega) (by first | assumption | (simp_all; done) | omega) (by first | assumption | (simp_all; done) | omega)]; exact ⟨_, _, rfl, (h1.less (fun x hx => (.tail _ (.tail _ (.tail _ hx))))), (h2.less (fun x hx => (.tail _ (.tail _ (.tail _ hx)))))⟩) hB ha_)
          ·
            replace c42 := of_decide_eq_false c42
            refine WC.skip ?_
            refine hK39 ?_
            refine WC.seq fun K47 hK47 => ?_
            refine WC.region ?_
            refine WL.val (dx_loadN rfl ty_agg_25_4 rfl k3.range rfl) rfl rfl ?_
            refine WL.get (dx_cv rfl Try.func30 rfl rfl rfl (step_v secs loose fuse down _ _ W23 _ hL h1 h2 hfu)) rfl rfl ?_
            rintro _ W49 ⟨rfl, b48⟩
            replace h1 := h1.below b48
            replace h2 := h2.below b48
            replace k3 := k3.below b48
            replace k8 := k8.below b48
            replace k14 := k14.below b48
            replace hB := below_then hB b48
            replace hL := LL.below hL b48
            refine WL.val (dx_move rfl rfl) rfl rfl ?_
            refine WL.val (dx_extract rfl rfl rfl) rfl rfl ?_
            refine WL.val (dx_extract rfl rfl rfl) rfl rfl ?_
            refine WL.get (dx_alloc rfl ty_zero_25 rfl) rfl rfl ?_
            rintro _ W50 ⟨rfl, k51, b52, z53⟩
            have n54 : w.heap.size ≠ W49.heap.size := Nat.ne_of_lt k3.lt
            have n55 : W2.heap.size ≠ W49.heap.size := Nat.ne_of_lt k8.lt
            have n56 : W7.heap.size ≠ W49.heap.size := Nat.ne_of_lt k14.lt
            have l57 := hB.size
            replace h1 := h1.more b52 (Nat.le_refl _)
            replace h2 := h2.more b52 (Nat.le_refl _)
            replace k3 := k3.below b52
            replace k8 := k8.below b52
            replace k14 := k14.below b52
            replace hB := below_then hB b52
            replace hL := LL.more hL z53
            refine WL.do (dx_store (cs' := [s1, s2, .int .i64 ((stS fuse down).1), .bool ((stS fuse down).2.1)]) (vs := [s1, s2, .int .i64 ((stS fuse down).1), .bool ((stS fuse down).2.1)]) rfl ty_size_25_4 rfl rfl rfl (oc_cons h1.one (oc_cons h2.one (oc_cons rfl (oc_cons rfl oc_nil)))) k51 rfl (Nat.le_of_ble_eq_true rfl) rfl) rfl ?_
            rintro _ W58 ⟨k60, o59⟩
            replace k3 := k3.other o59 n54
            replace k8 := k8.other o59 n55
            replace k14 := k14.other o59 n56
            clear k51
            replace h1 := h1.only o59 (.head _)
            replace h2 := h2.only o59 (.head _)
            replace hB := o59.below hB l57
            replace hL := LL.only hL o59
            refine WL.val (dx_assign rfl rfl) rfl rfl ?_
            refine WL.nil ?_
            refine hK47 ?_
            refine WC.seq fun K61 hK61 => ?_
            refine WC.seq fun K62 hK62 => ?_
            refine WC.region ?_
            refine WL.val (dx_move rfl rfl) rfl rfl ?_
            refine WL.val (dx_not rfl rfl) rfl rfl ?_
            refine WL.nil ?_
            refine hK62 ?_
            refine WC.cond rfl (fun c63 => ?_) (fun c63 => ?_)
            ·
              replace c63 := bnot_t c63
              refine WC.seq fun K64 hK64 => ?_
              refine WC.region ?_
              refine WL.val (dx_loadN rfl ty_agg_25_4 rfl k60.range rfl) rfl rfl ?_
              refine WL.do (dx_store (cs' := [s1, s2, .int .i64 ((stS fuse down).1), .bool ((stS fuse down).2.1)]) (vs := [s1, s2, .int .i64 ((stS fuse down).1), .bool ((stS fuse down).2.1)]) rfl ty_size_25_4 rfl rfl rfl (oc_cons h1.one (oc_cons h2.one (oc_cons rfl (oc_cons rfl oc_nil)))) k14 rfl (Nat.le_of_ble_eq_true rfl) rfl) rfl ?_
              rintro _ W65 ⟨k67, o66⟩
              replace k3 := k3.other o66 n17
              replace k8 := k8.other o66 n18
              replace k60 := k60.other o66 n56.symm
              clear k14
              replace h1 := h1.only o66 (.tail _ (.head _))
              replace h2 := h2.only o66 (.tail _ (.head _))
              replace hB := o66.below hB l19
              replace hL := LL.only hL o66
              refine WL.val (dx_assign rfl rfl) rfl rfl ?_
              refine WL.nil ?_
              refine hK64 ?_
              refine WC.ret fun a_ ha_ => ?_
              exact hQ (cv_ret2 rfl (.agg rfl ty_agg_25_4 k67.range rfl) (.tmp rfl) (by rw [write_dead (by first | assumption | (simp_all; done) | omega) (by first | assumption | (simp_all; done) | omega) (by first | assumption | (simp_all; done) | omega) (by first | assumption | (simp_all; done) | omega) (by first | assumption | (simp_all; done) | omega)]; exact ⟨_, _, rfl, (h1.less (fun x hx => (.tail _ (.tail _ (.tail _ (.tail _ hx)))))), (h2.less (fun x hx => (.tail _ (.tail _ (.tail _ (.tail _ hx))))))⟩) hB ha_)
            ·
              replace c63 := bnot_f c63
              refine WC.skip ?_
              refine hK61 ?_
              refine WC.seq fun K68 hK68 => ?_
              refine WC.drawM 8 [(some 43, .by fun u W => NewE 129 W58.heap.size u W), (some 44, .is (.pointer (some ⟨W49.heap.size, 1, none⟩))), (some 45, .is (s2)), (some 46, .by fun u W => NewQ 129 W58.heap.size (loose.map encW) u W), (some 47, .is (.int .i64 a)), (some 48, .is (.agg (encS z).toArray)), (some 49, .is (.agg (encW (a, z)).toArray)), (some 50, .by fun u W => RdF 129 (W49.heap.size :: W7.heap.size :: W2.heap.size :: w.heap.size :: L) W u [(encW (a, z))])] [[], [], [1], [0, 2], [], [], [4, 5], [6]] (by kernel_rfl) (by kernel_rfl) (by kernel_rfl) (by kernel_rfl) (by kernel_rfl) (by kernel_rfl) (by kernel_rfl) ⟨fun _ _ _ hb h => h.below hb, fun _ _ _ hb h => h.below hb, fun _ _ _ hb h => h.below hb, trivial⟩ ?_ ?_
              ·
                refine DSteps.cons (fun Wd hd => ?_) ?_
                ·
                  exact (dx_lit0E rfl ty_ap_23 (by decide)).mono (fun v W' h => ⟨h.1, h.2.le hd.size⟩)
                refine DSteps.cons (fun Wd hd => ?_) ?_
                ·
                  exact DV.dr (dx_fld (o1 := 1) rfl ty_fld_25_1_1 rfl rfl) ⟨Below.refl _ _, rfl⟩
                refine DSteps.cons (fun Wd hd => ?_) ?_
                ·
                  have k60 := k60.below hd
                  exact DV.dr (dx_load rfl ty_one_23 rfl (k60.cell (k := 1) rfl)) ⟨Below.refl _ _, rfl⟩
                refine DSteps.cons (fun Wd hd => ?_) ?_
                ·
                  intro u8_0 p8_0
                  have h2 := h2.below hd
                  exact (dx_apE rfl ty_ap_23 rfl rfl p8_0 h2 (by simp; unfold maxLen; omega) (by simp; omega) hd.size).mono (fun v W' h => ⟨h.1, h.2⟩)
                refine DSteps.cons (fun Wd hd => ?_) ?_
                ·
                  exact DV.dr (dx_move rfl rfl) ⟨Below.refl _ _, rfl⟩
                refine DSteps.cons (fun Wd hd => ?_) ?_
                ·
                  have k8 := k8.below hd
                  exact DV.dr (dx_loadN rfl ty_agg_27_128 rfl k8.range (by rw [encS_len]; exact hz)) ⟨Below.refl _ _, rfl⟩
                refine DSteps.cons (fun Wd hd => ?_) ?_
                ·
                  exact DV.dr (dx_build rfl rfl (builtW _ _ hz)) ⟨Below.refl _ _, rfl⟩
                refine DSteps.cons (fun Wd hd => ?_) ?_
                ·
                  exact (dx_lit1 (r := (encW (a, z))) rfl ty_ap_23 (by decide) (by decide) rfl rfl (by simp [encW, encS_len, hz])).mono (fun v W' h => ⟨h.2.1, h.1.notin (LL.below hL hd) (Nat.le_refl _)⟩)
                exact trivial
              ·
                intro W69 b70
                intro _ _
                rintro u8_3 ⟨B8_3, q8_3, k8_3⟩
                intro u8_7 p8_7
                have n71 : w.heap.size ≠ B8_3 := Nat.ne_of_lt (Nat.lt_of_lt_of_le k3.lt q8_3)
                have n72 : W2.heap.size ≠ B8_3 := Nat.ne_of_lt (Nat.lt_of_lt_of_le k8.lt q8_3)
                have n73 : W7.heap.size ≠ B8_3 := Nat.ne_of_lt (Nat.lt_of_lt_of_le k14.lt q8_3)
                have n74 : W49.heap.size ≠ B8_3 := Nat.ne_of_lt (Nat.lt_of_lt_of_le k60.lt q8_3)
                replace h1 := h1.more b70 q8_3
                replace h2 := h2.more b70 q8_3
                replace k3 := k3.below b70
                replace k8 := k8.below b70
                replace k14 := k14.below b70
                replace k60 := k60.below b70
                have l75 := Nat.le_trans hB.size q8_3
                replace hB := below_then hB b70
                replace hL := LL.below hL b70
                replace hL := LL.cons hL k8_3.lt
                refine WL.get (dx_apO' (rs := loose.map encW) (news := [(encW (a, z))]) rfl ty_ap_23 rfl rfl k8_3 p8_7 (fun r hr => by rw [List.mem_singleton.1 hr]; exact oc_W _) (by simp; unfold maxLen; omega) (by simp; omega)) rfl rfl ?_
                rintro u79 W76 ⟨B80, k77, g78⟩
                have n81 : w.heap.size ≠ B80 := k3.grow_ne g78 n71
                have n82 : W2.heap.size ≠ B80 := k8.grow_ne g78 n72
                have n83 : W7.heap.size ≠ B80 := k14.grow_ne g78 n73
                have n84 : W49.heap.size ≠ B80 := k60.grow_ne g78 n74
                have l85 := g78.le l75 hB.size
                replace h1 := h1.grow' g78 (.head _)
                replace h2 := h2.grow' g78 (.head _)
                replace k3 := k3.grow g78 n71
                replace k8 := k8.grow g78 n72
                replace k14 := k14.grow g78 n73
                replace k60 := k60.grow g78 n74
                replace hB := g78.below hB l75 hB.size
                replace hL := LL.grow hL g78 k77.lt
                rw [show (loose.map encW) ++ [encW (a, z)] = (loose ++ [(a, z)]).map encW from by simp] at k77
                refine WL.val (dx_fld (o1 := 1) rfl ty_fld_25_1_1 rfl rfl) rfl rfl ?_
                refine WL.do (dx_store (cs' := [s1, u79, .int .i64 ((stS fuse down).1), .bool ((stS fuse down).2.1)]) (vs := [u79]) rfl ty_size_23_1 rfl rfl (oc_one k77.one) (oc_cons k77.one oc_nil) k60 rfl (Nat.le_of_ble_eq_true rfl) rfl) rfl ?_
                rintro _ W86 ⟨k88, o87⟩
                replace k3 := k3.other o87 n54
                replace k8 := k8.other o87 n55
                replace k14 := k14.other o87 n56
                replace k77 := k77.other o87 n84.symm
                clear k60
                replace h1 := h1.only o87 (.tail _ (.tail _ (.head _)))
                replace h2 := h2.only o87 (.tail _ (.tail _ (.head _)))
                replace hB := o87.below hB l57
                replace hL := LL.only hL o87
                refine WL.nil ?_
                refine hK68 ?_
                refine WC.seq fun K89 hK89 => ?_
                refine WC.region ?_
                refine WL.val (dx_loadN rfl ty_agg_25_4 rfl k88.range rfl) rfl rfl ?_
                refine WL.do (dx_store (cs' := [s1, u79, .int .i64 ((stS fuse down).1), .bool ((stS fuse down).2.1)]) (vs := [s1, u79, .int .i64 ((stS fuse down).1), .bool ((stS fuse down).2.1)]) rfl ty_size_25_4 rfl rfl rfl (oc_cons h1.one (oc_cons k77.one (oc_cons rfl (oc_cons rfl oc_nil)))) k14 rfl (Nat.le_of_ble_eq_true rfl) rfl) rfl ?_
                rintro _ W90 ⟨k92, o91⟩
                replace k3 := k3.other o91 n17
                replace k8 := k8.other o91 n18
                replace k88 := k88.other o91 n56.symm
                replace k77 := k77.other o91 n83.symm
                clear k14
                replace h1 := h1.only o91 (.tail _ (.tail _ (.tail _ (.head _))))
                replace h2 := h2.only o91 (.tail _ (.tail _ (.tail _ (.head _))))
                replace hB := o91.below hB l19
                replace hL := LL.only hL o91
                refine WL.val (dx_assign rfl rfl) rfl rfl ?_
                refine WL.nil ?_
                refine hK89 ?_
                refine WC.ret fun a_ ha_ => ?_
                exact hQ (cv_ret2 rfl (.agg rfl ty_agg_25_4 k92.range rfl) (.tmp rfl) (by rw [write_well (by first | assumption | (simp_all; done) | omega) (by first | assumption | (simp_all; done) | omega) (by first | assumption | (simp_all; done) | omega) (by first | assumption | (simp_all; done) | omega) (by first | assumption | (simp_all; done) | omega)]; exact ⟨_, _, rfl, (h1.less (fun x hx => (.tail _ (.tail _ (.tail _ (.tail _ (.tail _ (.tail _ hx)))))))), (k77.notin hL0 l85)⟩) hB ha_)
        ·
          replace g41 := bnot_f g41
          refine WL.off rfl rfl rfl ?_
          refine WL.off rfl rfl rfl ?_
          refine WL.off rfl rfl rfl ?_
          refine WL.off rfl rfl rfl ?_
          refine WL.val (dx_pick rfl rfl rfl) rfl rfl ?_
          refine WL.nil ?_
          refine hK40 ?_
          refine WC.condF rfl ?_
          refine WC.skip ?_
          refine hK39 ?_
          refine WC.seq fun K93 hK93 => ?_
          refine WC.region ?_
          refine WL.val (dx_loadN rfl ty_agg_25_4 rfl k3.range rfl) rfl rfl ?_
          refine WL.get (dx_cv rfl Try.func30 rfl rfl rfl (step_v secs loose fuse down _ _ W23 _ hL h1 h2 hfu)) rfl rfl ?_
          rintro _ W95 ⟨rfl, b94⟩
          replace h1 := h1.below b94
          replace h2 := h2.below b94
          replace k3 := k3.below b94
          replace k8 := k8.below b94
          replace k14 := k14.below b94
          replace hB := below_then hB b94
          replace hL := LL.below hL b94
          refine WL.val (dx_move rfl rfl) rfl rfl ?_
          refine WL.val (dx_extract rfl rfl rfl) rfl rfl ?_
          refine WL.val (dx_extract rfl rfl rfl) rfl rfl ?_
          refine WL.get (dx_alloc rfl ty_zero_25 rfl) rfl rfl ?_
          rintro _ W96 ⟨rfl, k97, b98, z99⟩
          have n100 : w.heap.size ≠ W95.heap.size := Nat.ne_of_lt k3.lt
          have n101 : W2.heap.size ≠ W95.heap.size := Nat.ne_of_lt k8.lt
          have n102 : W7.heap.size ≠ W95.heap.size := Nat.ne_of_lt k14.lt
          have l103 := hB.size
          replace h1 := h1.more b98 (Nat.le_refl _)
          replace h2 := h2.more b98 (Nat.le_refl _)
          replace k3 := k3.below b98
          replace k8 := k8.below b98
          replace k14 := k14.below b98
          replace hB := below_then hB b98
          replace hL := LL.more hL z99
          refine WL.do (dx_store (cs' := [s1, s2, .int .i64 ((stS fuse down).1), .bool ((stS fuse down).2.1)]) (vs := [s1, s2, .int .i64 ((stS fuse down).1), .bool ((stS fuse down).2.1)]) rfl ty_size_25_4 rfl rfl rfl (oc_cons h1.one (oc_cons h2.one (oc_cons rfl (oc_cons rfl oc_nil)))) k97 rfl (Nat.le_of_ble_eq_true rfl) rfl) rfl ?_
          rintro _ W104 ⟨k106, o105⟩
          replace k3 := k3.other o105 n100
          replace k8 := k8.other o105 n101
          replace k14 := k14.other o105 n102
          clear k97
          replace h1 := h1.only o105 (.head _)
          replace h2 := h2.only o105 (.head _)
          replace hB := o105.below hB l103
          replace hL := LL.only hL o105
          refine WL.val (dx_assign rfl rfl) rfl rfl ?_
          refine WL.nil ?_
          refine hK93 ?_
          refine WC.seq fun K107 hK107 => ?_
          refine WC.seq fun K108 hK108 => ?_
          refine WC.region ?_
          refine WL.val (dx_move rfl rfl) rfl rfl ?_
          refine WL.val (dx_not rfl rfl) rfl rfl ?_
          refine WL.nil ?_
          refine hK108 ?_
          refine WC.cond rfl (fun c109 => ?_) (fun c109 => ?_)
          ·
            replace c109 := bnot_t c109
            refine WC.seq fun K110 hK110 => ?_
            refine WC.region ?_
            refine WL.val (dx_loadN rfl ty_agg_25_4 rfl k106.range rfl) rfl rfl ?_
            refine WL.do (dx_store (cs' := [s1, s2, .int .i64 ((stS fuse down).1), .bool ((stS fuse down).2.1)]) (vs := [s1, s2, .int .i64 ((stS fuse down).1), .bool ((stS fuse down).2.1)]) rfl ty_size_25_4 rfl rfl rfl (oc_cons h1.one (oc_cons h2.one (oc_cons rfl (oc_cons rfl oc_nil)))) k14 rfl (Nat.le_of_ble_eq_true rfl) rfl) rfl ?_
            rintro _ W111 ⟨k113, o112⟩
            replace k3 := k3.other o112 n17
            replace k8 := k8.other o112 n18
            replace k106 := k106.other o112 n102.symm
            clear k14
            replace h1 := h1.only o112 (.tail _ (.head _))
            replace h2 := h2.only o112 (.tail _ (.head _))
            replace hB := o112.below hB l19
            replace hL := LL.only hL o112
            refine WL.val (dx_assign rfl rfl) rfl rfl ?_
            refine WL.nil ?_
            refine hK110 ?_
            refine WC.ret fun a_ ha_ => ?_
            exact hQ (cv_ret2 rfl (.agg rfl ty_agg_25_4 k113.range rfl) (.tmp rfl) (by rw [write_dead (by first | assumption | (simp_all; done) | omega) (by first | assumption | (simp_all; done) | omega) (by first | assumption | (simp_all; done) | omega) (by first | assumption | (simp_all; done) | omega) (by first | assumption | (simp_all; done) | omega)]; exact ⟨_, _, rfl, (h1.less (fun x hx => (.tail _ (.tail _ (.tail _ (.tail _ hx)))))), (h2.less (fun x hx => (.tail _ (.tail _ (.tail _ (.tail _ hx))))))⟩) hB ha_)
          ·
            replace c109 := bnot_f c109
            refine WC.skip ?_
            refine hK107 ?_
            refine WC.seq fun K114 hK114 => ?_
            refine WC.drawM 8 [(some 43, .by fun u W => NewE 129 W104.heap.size u W), (some 44, .is (.pointer (some ⟨W95.heap.size, 1, none⟩))), (some 45, .is (s2)), (some 46, .by fun u W => NewQ 129 W104.heap.size (loose.map encW) u W), (some 47, .is (.int .i64 a)), (some 48, .is (.agg (encS z).toArray)), (some 49, .is (.agg (encW (a, z)).toArray)), (some 50, .by fun u W => RdF 129 (W95.heap.size :: W7.heap.size :: W2.heap.size :: w.heap.size :: L) W u [(encW (a, z))])] [[], [], [1], [0, 2], [], [], [4, 5], [6]] (by kernel_rfl) (by kernel_rfl) (by kernel_rfl) (by kernel_rfl) (by kernel_rfl) (by kernel_rfl) (by kernel_rfl) ⟨fun _ _ _ hb h => h.below hb, fun _ _ _ hb h => h.below hb, fun _ _ _ hb h => h.below hb, trivial⟩ ?_ ?_
            ·
              refine DSteps.cons (fun Wd hd => ?_) ?_
              ·
                exact (dx_lit0E rfl ty_ap_23 (by decide)).mono (fun v W' h => ⟨h.1, h.2.le hd.size⟩)
              refine DSteps.cons (fun Wd hd => ?_) ?_
              ·
                exact DV.dr (dx_fld (o1 := 1) rfl ty_fld_25_1_1 rfl rfl) ⟨Below.refl _ _, rfl⟩
              refine DSteps.cons (fun Wd hd => ?_) ?_
              ·
                have k106 := k106.below hd
                exact DV.dr (dx_load rfl ty_one_23 rfl (k106.cell (k := 1) rfl)) ⟨Below.refl _ _, rfl⟩
              refine DSteps.cons (fun Wd hd => ?_) ?_
              ·
                intro u8_0 p8_0
                have h2 := h2.below hd
                exact (dx_apE rfl ty_ap_23 rfl rfl p8_0 h2 (by simp; unfold maxLen; omega) (by simp; omega) hd.size).mono (fun v W' h => ⟨h.1, h.2⟩)
              refine DSteps.cons (fun Wd hd => ?_) ?_
              ·
                exact DV.dr (dx_move rfl rfl) ⟨Below.refl _ _, rfl⟩
              refine DSteps.cons (fun Wd hd => ?_) ?_
              ·
                have k8 := k8.below hd
                exact DV.dr (dx_loadN rfl ty_agg_27_128 rfl k8.range (by rw [encS_len]; exact hz)) ⟨Below.refl _ _, rfl⟩
              refine DSteps.cons (fun Wd hd => ?_) ?_
              ·
                exact DV.dr (dx_build rfl rfl (builtW _ _ hz)) ⟨Below.refl _ _, rfl⟩
              refine DSteps.cons (fun Wd hd => ?_) ?_
              ·
                exact (dx_lit1 (r := (encW (a, z))) rfl ty_ap_23 (by decide) (by decide) rfl rfl (by simp [encW, encS_len, hz])).mono (fun v W' h => ⟨h.2.1, h.1.notin (LL.below hL hd) (Nat.le_refl _)⟩)
              exact trivial
            ·
              intro W115 b116
              intro _ _
              rintro u8_3 ⟨B8_3, q8_3, k8_3⟩
              intro u8_7 p8_7
              have n117 : w.heap.size ≠ B8_3 := Nat.ne_of_lt (Nat.lt_of_lt_of_le k3.lt q8_3)
              have n118 : W2.heap.size ≠ B8_3 := Nat.ne_of_lt (Nat.lt_of_lt_of_le k8.lt q8_3)
              have n119 : W7.heap.size ≠ B8_3 := Nat.ne_of_lt (Nat.lt_of_lt_of_le k14.lt q8_3)
              have n120 : W95.heap.size ≠ B8_3 := Nat.ne_of_lt (Nat.lt_of_lt_of_le k106.lt q8_3)
              replace h1 := h1.more b116 q8_3
              replace h2 := h2.more b116 q8_3
              replace k3 := k3.below b116
              replace k8 := k8.below b116
              replace k14 := k14.below b116
              replace k106 := k106.below b116
              have l121 := Nat.le_trans hB.size q8_3
              replace hB := below_then hB b116
              replace hL := LL.below hL b116
              replace hL := LL.cons hL k8_3.lt
              refine WL.get (dx_apO' (rs := loose.map encW) (news := [(encW (a, z))]) rfl ty_ap_23 rfl rfl k8_3 p8_7 (fun r hr => by rw [List.mem_singleton.1 hr]; exact oc_W _) (by simp; unfold maxLen; omega) (by simp; omega)) rfl rfl ?_
              rintro u125 W122 ⟨B126, k123, g124⟩
              have n127 : w.heap.size ≠ B126 := k3.grow_ne g124 n117
              have n128 : W2.heap.size ≠ B126 := k8.grow_ne g124 n118
              have n129 : W7.heap.size ≠ B126 := k14.grow_ne g124 n119
              have n130 : W95.heap.size ≠ B126 := k106.grow_ne g124 n120
              have l131 := g124.le l121 hB.size
              replace h1 := h1.grow' g124 (.head _)
              replace h2 := h2.grow' g124 (.head _)
              replace k3 := k3.grow g124 n117
              replace k8 := k8.grow g124 n118
              replace k14 := k14.grow g124 n119
              replace k106 := k106.grow g124 n120
              replace hB := g124.below hB l121 hB.size
              replace hL := LL.grow hL g124 k123.lt
              rw [show (loose.map encW) ++ [encW (a, z)] = (loose ++ [(a, z)]).map encW from by simp] at k123
              refine WL.val (dx_fld (o1 := 1) rfl ty_fld_25_1_1 rfl rfl) rfl rfl ?_
              refine WL.do (dx_store (cs' := [s1, u125, .int .i64 ((stS fuse down).1), .bool ((stS fuse down).2.1)]) (vs := [u125]) rfl ty_size_23_1 rfl rfl (oc_one k123.one) (oc_cons k123.one oc_nil) k106 rfl (Nat.le_of_ble_eq_true rfl) rfl) rfl ?_
              rintro _ W132 ⟨k134, o133⟩
              replace k3 := k3.other o133 n100
              replace k8 := k8.other o133 n101
              replace k14 := k14.other o133 n102
              replace k123 := k123.other o133 n130.symm
              clear k106
              replace h1 := h1.only o133 (.tail _ (.tail _ (.head _)))
              replace h2 := h2.only o133 (.tail _ (.tail _ (.head _)))
              replace hB := o133.below hB l103
              replace hL := LL.only hL o133
              refine WL.nil ?_
              refine hK114 ?_
              refine WC.seq fun K135 hK135 => ?_
              refine WC.region ?_
              refine WL.val (dx_loadN rfl ty_agg_25_4 rfl k134.range rfl) rfl rfl ?_
              refine WL.do (dx_store (cs' := [s1, u125, .int .i64 ((stS fuse down).1), .bool ((stS fuse down).2.1)]) (vs := [s1, u125, .int .i64 ((stS fuse down).1), .bool ((stS fuse down).2.1)]) rfl ty_size_25_4 rfl rfl rfl (oc_cons h1.one (oc_cons k123.one (oc_cons rfl (oc_cons rfl oc_nil)))) k14 rfl (Nat.le_of_ble_eq_true rfl) rfl) rfl ?_
              rintro _ W136 ⟨k138, o137⟩
              replace k3 := k3.other o137 n17
              replace k8 := k8.other o137 n18
              replace k134 := k134.other o137 n102.symm
              replace k123 := k123.other o137 n129.symm
              clear k14
              replace h1 := h1.only o137 (.tail _ (.tail _ (.tail _ (.head _))))
              replace h2 := h2.only o137 (.tail _ (.tail _ (.tail _ (.head _))))
              replace hB := o137.below hB l19
              replace hL := LL.only hL o137
              refine WL.val (dx_assign rfl rfl) rfl rfl ?_
              refine WL.nil ?_
              refine hK135 ?_
              refine WC.ret fun a_ ha_ => ?_
              exact hQ (cv_ret2 rfl (.agg rfl ty_agg_25_4 k138.range rfl) (.tmp rfl) (by rw [write_well (by first | assumption | (simp_all; done) | omega) (by first | assumption | (simp_all; done) | omega) (by first | assumption | (simp_all; done) | omega) (by first | assumption | (simp_all; done) | omega) (by first | assumption | (simp_all; done) | omega)]; exact ⟨_, _, rfl, (h1.less (fun x hx => (.tail _ (.tail _ (.tail _ (.tail _ (.tail _ (.tail _ hx)))))))), (k123.notin hL0 l131)⟩) hB ha_)

set_option maxHeartbeats 1000000 in
theorem diskWrites_v (secs : List (List Int)) (loose : List (Int × List Int)) (fuse : Int) (down : Bool) (s1 s2 : Value) (a : Int) (z : List Int) (w : World) (L : List Nat) (hL : LL L w) (h1 : RdF 128 L w s1 (secs.map encS)) (h2 : RdF 129 L w s2 (loose.map encW))  (hL0 : LL L w) (hfu : -9223372036854775808 ≤ fuse ∧ fuse ≤ 9223372036854775807) (hz : z.length = 128) : CV Try.prog 3 [.agg #[s1, s2, .int .i64 fuse, .bool down], .int .i64 a, .agg (encS z).toArray] w fun v W => v = .bool true := by
  refine cv_enter (N := 78) (f := [(0, .agg #[s1, s2, .int .i64 fuse, .bool down]), (1, .int .i64 a), (2, .agg (encS z).toArray)]) Try.func3 rfl rfl rfl rfl fun Q hQ hE => ?_
  have hB := Below.refl w.heap.size w
  have h1m : secs.length ≤ maxLen := by have := h1.len; rwa [List.length_map] at this
  unfold maxLen at h1m
  have h2m : loose.length ≤ maxLen := by have := h2.len; rwa [List.length_map] at this
  unfold maxLen at h2m
  refine WC.seq fun K1 hK1 => ?_
  refine WC.region ?_
  refine WL.get (dx_box rfl rfl rfl) rfl rfl ?_
  rintro _ W2 ⟨rfl, k3, b4, z5⟩
  have l6 := hB.size
  replace h1 := h1.more b4 (Nat.le_refl _)
  replace h2 := h2.more b4 (Nat.le_refl _)
  replace hB := below_then hB b4
  replace hL := LL.more hL z5
  refine WL.get (dx_box (cs := (encS z)) rfl rfl rfl) rfl rfl ?_
  rintro _ W7 ⟨rfl, k8, b9, z10⟩
  have n11 : w.heap.size ≠ W2.heap.size := Nat.ne_of_lt k3.lt
  have l12 := hB.size
  replace h1 := h1.more b9 (Nat.le_refl _)
  replace h2 := h2.more b9 (Nat.le_refl _)
  replace k3 := k3.below b9
  replace hB := below_then hB b9
  replace hL := LL.more hL z10
  refine WL.val (dx_assign rfl rfl) rfl rfl ?_
  refine WL.nil ?_
  refine hK1 ?_
  refine WC.seq fun K13 hK13 => ?_
  refine WC.seq fun K14 hK14 => ?_
  refine WC.region ?_
  refine WL.get (dx_cv rfl Try.func8 rfl rfl rfl (alive_v W7 _ hL hL)) rfl rfl ?_
  rintro _ W16 ⟨rfl, b15⟩
  replace h1 := h1.below b15
  replace h2 := h2.below b15
  replace k3 := k3.below b15
  replace k8 := k8.below b15
  replace hB := below_then hB b15
  replace hL := LL.below hL b15
  refine WL.val (dx_not rfl rfl) rfl rfl ?_
  refine WL.nil ?_
  refine hK14 ?_
  refine WC.condF rfl ?_
  refine WC.skip ?_
  refine hK13 ?_
  refine WC.seq fun K17 hK17 => ?_
  refine WC.seq fun K18 hK18 => ?_
  refine WC.region ?_
  refine WL.val (dx_loadN rfl ty_agg_25_4 rfl k3.range rfl) rfl rfl ?_
  refine WL.get (dx_cv rfl Try.func9 rfl rfl rfl (great_v _ _ _ _ _ _ W16 _ hL h1 h2)) rfl rfl ?_
  rintro _ W20 ⟨rfl, b19⟩
  replace h1 := h1.below b19
  replace h2 := h2.below b19
  replace k3 := k3.below b19
  replace k8 := k8.below b19
  replace hB := below_then hB b19
  replace hL := LL.below hL b19
  refine WL.nil ?_
  refine hK18 ?_
  refine WC.cond rfl (fun c21 => ?_) (fun c21 => ?_)
  ·
    refine WC.seq fun K22 hK22 => ?_
    refine WC.region ?_
    refine WL.val (dx_assign rfl rfl) rfl rfl ?_
    refine WL.nil ?_
    refine hK22 ?_
    refine WC.ret fun a_ ha_ => ?_
    exact hQ (cv_ret1 rfl (.tmp rfl) rfl hB ha_)
  ·
    obtain ⟨hg1, hg2⟩ := great_f c21
    refine WC.skip ?_
    refine hK17 ?_
    refine WC.seq fun K23 hK23 => ?_
    refine WC.region ?_
    refine WL.val (dx_loadN rfl ty_agg_25_4 rfl k3.range rfl) rfl rfl ?_
    refine WL.get (dx_cv rfl Try.func10 rfl rfl rfl (rcopy_v secs loose fuse down _ _ W20 _ hL h1 h2 hL (by omega) (by omega))) rfl rfl ?_
    rintro _ W29 ⟨⟨u24, u25, rfl, j26, j27⟩, b28⟩
    replace h1 := h1.below b28
    replace h2 := h2.below b28
    replace k3 := k3.below b28
    replace k8 := k8.below b28
    replace hB := below_then hB b28
    replace hL := LL.below hL b28
    refine WL.get (dx_alloc rfl ty_zero_25 rfl) rfl rfl ?_
    rintro _ W30 ⟨rfl, k31, b32, z33⟩
    have n34 : w.heap.size ≠ W29.heap.size := Nat.ne_of_lt k3.lt
    have n35 : W2.heap.size ≠ W29.heap.size := Nat.ne_of_lt k8.lt
    have l36 := hB.size
    replace h1 := h1.more b32 (Nat.le_refl _)
    replace h2 := h2.more b32 (Nat.le_refl _)
    replace j26 := j26.more b32 (Nat.le_refl _)
    replace j27 := j27.more b32 (Nat.le_refl _)
    replace k3 := k3.below b32
    replace k8 := k8.below b32
    replace hB := below_then hB b32
    replace hL := LL.more hL z33
    refine WL.do (dx_store (cs' := [u24, u25, .int .i64 fuse, .bool down]) (vs := [u24, u25, .int .i64 fuse, .bool down]) rfl ty_size_25_4 rfl rfl rfl (oc_cons j26.one (oc_cons j27.one (oc_cons rfl (oc_cons rfl oc_nil)))) k31 rfl (Nat.le_of_ble_eq_true rfl) rfl) rfl ?_
    rintro _ W37 ⟨k39, o38⟩
    replace k3 := k3.other o38 n34
    replace k8 := k8.other o38 n35
    clear k31
    replace h1 := h1.only o38 (.head _)
    replace h2 := h2.only o38 (.head _)
    replace j26 := j26.only o38 (.head _)
    replace j27 := j27.only o38 (.head _)
    replace hB := o38.below hB l36
    replace hL := LL.only hL o38
    refine WL.nil ?_
    refine hK23 ?_
    refine WC.seq fun K40 hK40 => ?_
    refine WC.region ?_
    refine WL.val (dx_loadN rfl ty_agg_25_4 rfl k39.range rfl) rfl rfl ?_
    refine WL.val (dx_move rfl rfl) rfl rfl ?_
    refine WL.val (dx_loadN rfl ty_agg_27_128 rfl k8.range (by rw [encS_len]; exact hz)) rfl rfl ?_
    refine WL.get (dx_cv rfl Try.func11 rfl rfl rfl (write_v secs loose fuse down _ _ a z W37 _ hL j26 j27 hL hfu hz)) rfl rfl ?_
    rintro _ W46 ⟨⟨u41, u42, rfl, j43, j44⟩, b45⟩
    replace h1 := h1.below b45
    replace h2 := h2.below b45
    replace j26 := j26.below b45
    replace j27 := j27.below b45
    replace k3 := k3.below b45
    replace k8 := k8.below b45
    replace k39 := k39.below b45
    replace hB := below_then hB b45
    replace hL := LL.below hL b45
    refine WL.val (dx_move rfl rfl) rfl rfl ?_
    refine WL.val (dx_extract rfl rfl rfl) rfl rfl ?_
    refine WL.val (dx_extract rfl rfl rfl) rfl rfl ?_
    refine WL.get (dx_alloc rfl ty_zero_25 rfl) rfl rfl ?_
    rintro _ W47 ⟨rfl, k48, b49, z50⟩
    have n51 : w.heap.size ≠ W46.heap.size := Nat.ne_of_lt k3.lt
    have n52 : W2.heap.size ≠ W46.heap.size := Nat.ne_of_lt k8.lt
    have n53 : W29.heap.size ≠ W46.heap.size := Nat.ne_of_lt k39.lt
    have l54 := hB.size
    replace h1 := h1.more b49 (Nat.le_refl _)
    replace h2 := h2.more b49 (Nat.le_refl _)
    replace j26 := j26.more b49 (Nat.le_refl _)
    replace j27 := j27.more b49 (Nat.le_refl _)
    replace j43 := j43.more b49 (Nat.le_refl _)
    replace j44 := j44.more b49 (Nat.le_refl _)
    replace k3 := k3.below b49
    replace k8 := k8.below b49
    replace k39 := k39.below b49
    replace hB := below_then hB b49
    replace hL := LL.more hL z50
    refine WL.do (dx_store (cs' := [u41, u42, .int .i64 ((writeS secs loose fuse down a z).fuse), .bool ((writeS secs loose fuse down a z).down)]) (vs := [u41, u42, .int .i64 ((writeS secs loose fuse down a z).fuse), .bool ((writeS secs loose fuse down a z).down)]) rfl ty_size_25_4 rfl rfl rfl (oc_cons j43.one (oc_cons j44.one (oc_cons rfl (oc_cons rfl oc_nil)))) k48 rfl (Nat.le_of_ble_eq_true rfl) rfl) rfl ?_
    rintro _ W55 ⟨k57, o56⟩
    replace k3 := k3.other o56 n51
    replace k8 := k8.other o56 n52
    replace k39 := k39.other o56 n53
    clear k48
    replace h1 := h1.only o56 (.head _)
    replace h2 := h2.only o56 (.head _)
    replace j26 := j26.only o56 (.head _)
    replace j27 := j27.only o56 (.head _)
    replace j43 := j43.only o56 (.head _)
    replace j44 := j44.only o56 (.head _)
    replace hB := o56.below hB l54
    replace hL := LL.only hL o56
    refine WL.val (dx_assign rfl rfl) rfl rfl ?_
    refine WL.nil ?_
    refine hK40 ?_
    refine WC.seq fun K58 hK58 => ?_
    refine WC.region ?_
    refine WL.val (dx_loadN rfl ty_agg_25_4 rfl k3.range rfl) rfl rfl ?_
    refine WL.val (dx_move rfl rfl) rfl rfl ?_
    refine WL.val (dx_loadN rfl ty_agg_27_128 rfl k8.range (by rw [encS_len]; exact hz)) rfl rfl ?_
    refine WL.get (dx_cv rfl Try.func12 rfl rfl rfl (rwrite_v secs loose fuse down _ _ a z W55 _ hL h1 h2 hL hfu hz)) rfl rfl ?_
    rintro _ W64 ⟨⟨u59, u60, rfl, j61, j62⟩, b63⟩
    replace h1 := h1.below b63
    replace h2 := h2.below b63
    replace j26 := j26.below b63
    replace j27 := j27.below b63
    replace j43 := j43.below b63
    replace j44 := j44.below b63
    replace k3 := k3.below b63
    replace k8 := k8.below b63
    replace k39 := k39.below b63
    replace k57 := k57.below b63
    replace hB := below_then hB b63
    replace hL := LL.below hL b63
    refine WL.val (dx_move rfl rfl) rfl rfl ?_
    refine WL.val (dx_extract rfl rfl rfl) rfl rfl ?_
    refine WL.val (dx_extract rfl rfl rfl) rfl rfl ?_
    refine WL.get (dx_alloc rfl ty_zero_25 rfl) rfl rfl ?_
    rintro _ W65 ⟨rfl, k66, b67, z68⟩
    have n69 : w.heap.size ≠ W64.heap.size := Nat.ne_of_lt k3.lt
    have n70 : W2.heap.size ≠ W64.heap.size := Nat.ne_of_lt k8.lt
    have n71 : W29.heap.size ≠ W64.heap.size := Nat.ne_of_lt k39.lt
    have n72 : W46.heap.size ≠ W64.heap.size := Nat.ne_of_lt k57.lt
    have l73 := hB.size
    replace h1 := h1.more b67 (Nat.le_refl _)
    replace h2 := h2.more b67 (Nat.le_refl _)
    replace j26 := j26.more b67 (Nat.le_refl _)
    replace j27 := j27.more b67 (Nat.le_refl _)
    replace j43 := j43.more b67 (Nat.le_refl _)
    replace j44 := j44.more b67 (Nat.le_refl _)
    replace j61 := j61.more b67 (Nat.le_refl _)
    replace j62 := j62.more b67 (Nat.le_refl _)
    replace k3 := k3.below b67
    replace k8 := k8.below b67
    replace k39 := k39.below b67
    replace k57 := k57.below b67
    replace hB := below_then hB b67
    replace hL := LL.more hL z68
    refine WL.do (dx_store (cs' := [u59, u60, .int .i64 ((writeS secs loose fuse down a z).fuse), .bool ((writeS secs loose fuse down a z).down)]) (vs := [u59, u60, .int .i64 ((writeS secs loose fuse down a z).fuse), .bool ((writeS secs loose fuse down a z).down)]) rfl ty_size_25_4 rfl rfl rfl (oc_cons j61.one (oc_cons j62.one (oc_cons rfl (oc_cons rfl oc_nil)))) k66 rfl (Nat.le_of_ble_eq_true rfl) rfl) rfl ?_
    rintro _ W74 ⟨k76, o75⟩
    replace k3 := k3.other o75 n69
    replace k8 := k8.other o75 n70
    replace k39 := k39.other o75 n71
    replace k57 := k57.other o75 n72
    clear k66
    replace h1 := h1.only o75 (.head _)
    replace h2 := h2.only o75 (.head _)
    replace j26 := j26.only o75 (.head _)
    replace j27 := j27.only o75 (.head _)
    replace j43 := j43.only o75 (.head _)
    replace j44 := j44.only o75 (.head _)
    replace j61 := j61.only o75 (.head _)
    replace j62 := j62.only o75 (.head _)
    replace hB := o75.below hB l73
    replace hL := LL.only hL o75
    refine WL.val (dx_assign rfl rfl) rfl rfl ?_
    refine WL.nil ?_
    refine hK58 ?_
    refine WC.seq fun K77 hK77 => ?_
    refine WC.region ?_
    refine WL.val (dx_loadN rfl ty_agg_25_4 rfl k39.range rfl) rfl rfl ?_
    refine WL.val (dx_move rfl rfl) rfl rfl ?_
    refine WL.get (dx_cv rfl Try.func13 rfl rfl rfl (read_v secs loose fuse down _ _ a W74 _ hL j26 j27)) rfl rfl ?_
    rintro _ W80 ⟨rfl, b79⟩
    replace h1 := h1.below b79
    replace h2 := h2.below b79
    replace j26 := j26.below b79
    replace j27 := j27.below b79
    replace j43 := j43.below b79
    replace j44 := j44.below b79
    replace j61 := j61.below b79
    replace j62 := j62.below b79
    replace k3 := k3.below b79
    replace k8 := k8.below b79
    replace k39 := k39.below b79
    replace k57 := k57.below b79
    replace k76 := k76.below b79
    replace hB := below_then hB b79
    replace hL := LL.below hL b79
    refine WL.val (dx_move rfl rfl) rfl rfl ?_
    refine WL.val (dx_extract rfl rfl rfl) rfl rfl ?_
    refine WL.val (dx_extract rfl rfl rfl) rfl rfl ?_
    refine WL.get (dx_alloc (cs := encS z0) rfl ty_zero_27 cells_z0) rfl rfl ?_
    rintro _ W81 ⟨rfl, k82, b83, z84⟩
    have n85 : w.heap.size ≠ W80.heap.size := Nat.ne_of_lt k3.lt
    have n86 : W2.heap.size ≠ W80.heap.size := Nat.ne_of_lt k8.lt
    have n87 : W29.heap.size ≠ W80.heap.size := Nat.ne_of_lt k39.lt
    have n88 : W46.heap.size ≠ W80.heap.size := Nat.ne_of_lt k57.lt
    have n89 : W64.heap.size ≠ W80.heap.size := Nat.ne_of_lt k76.lt
    have l90 := hB.size
    replace h1 := h1.more b83 (Nat.le_refl _)
    replace h2 := h2.more b83 (Nat.le_refl _)
    replace j26 := j26.more b83 (Nat.le_refl _)
    replace j27 := j27.more b83 (Nat.le_refl _)
    replace j43 := j43.more b83 (Nat.le_refl _)
    replace j44 := j44.more b83 (Nat.le_refl _)
    replace j61 := j61.more b83 (Nat.le_refl _)
    replace j62 := j62.more b83 (Nat.le_refl _)
    replace k3 := k3.below b83
    replace k8 := k8.below b83
    replace k39 := k39.below b83
    replace k57 := k57.below b83
    replace k76 := k76.below b83
    replace hB := below_then hB b83
    replace hL := LL.more hL z84
    refine WL.do (dx_storeW (vs := (encS ((readS secs loose down a).1))) rfl ty_size_27_128 rfl rfl rfl (oc_S ((readS secs loose down a).1)) k82 (by rw [encS_len]; exact (readS_len j26 j27)) (by rw [encS_len]; exact z0_len)) rfl ?_
    rintro _ W91 ⟨k93, o92⟩
    replace k3 := k3.other o92 n85
    replace k8 := k8.other o92 n86
    replace k39 := k39.other o92 n87
    replace k57 := k57.other o92 n88
    replace k76 := k76.other o92 n89
    clear k82
    replace h1 := h1.only o92 (.head _)
    replace h2 := h2.only o92 (.head _)
    replace j26 := j26.only o92 (.head _)
    replace j27 := j27.only o92 (.head _)
    replace j43 := j43.only o92 (.head _)
    replace j44 := j44.only o92 (.head _)
    replace j61 := j61.only o92 (.head _)
    replace j62 := j62.only o92 (.head _)
    replace hB := o92.below hB l90
    replace hL := LL.only hL o92
    refine WL.val (dx_assign rfl rfl) rfl rfl ?_
    refine WL.nil ?_
    refine hK77 ?_
    refine WC.seq fun K94 hK94 => ?_
    refine WC.region ?_
    refine WL.val (dx_loadN rfl ty_agg_25_4 rfl k3.range rfl) rfl rfl ?_
    refine WL.val (dx_move rfl rfl) rfl rfl ?_
    refine WL.get (dx_cv rfl Try.func14 rfl rfl rfl (rread_v secs loose fuse down _ _ a W91 _ hL h1 h2)) rfl rfl ?_
    rintro _ W97 ⟨rfl, b96⟩
    replace h1 := h1.below b96
    replace h2 := h2.below b96
    replace j26 := j26.below b96
    replace j27 := j27.below b96
    replace j43 := j43.below b96
    replace j44 := j44.below b96
    replace j61 := j61.below b96
    replace j62 := j62.below b96
    replace k3 := k3.below b96
    replace k8 := k8.below b96
    replace k39 := k39.below b96
    replace k57 := k57.below b96
    replace k76 := k76.below b96
    replace k93 := k93.below b96
    replace hB := below_then hB b96
    replace hL := LL.below hL b96
    refine WL.val (dx_move rfl rfl) rfl rfl ?_
    refine WL.val (dx_extract rfl rfl rfl) rfl rfl ?_
    refine WL.val (dx_extract rfl rfl rfl) rfl rfl ?_
    refine WL.get (dx_alloc (cs := encS z0) rfl ty_zero_27 cells_z0) rfl rfl ?_
    rintro _ W98 ⟨rfl, k99, b100, z101⟩
    have n102 : w.heap.size ≠ W97.heap.size := Nat.ne_of_lt k3.lt
    have n103 : W2.heap.size ≠ W97.heap.size := Nat.ne_of_lt k8.lt
    have n104 : W29.heap.size ≠ W97.heap.size := Nat.ne_of_lt k39.lt
    have n105 : W46.heap.size ≠ W97.heap.size := Nat.ne_of_lt k57.lt
    have n106 : W64.heap.size ≠ W97.heap.size := Nat.ne_of_lt k76.lt
    have n107 : W80.heap.size ≠ W97.heap.size := Nat.ne_of_lt k93.lt
    have l108 := hB.size
    replace h1 := h1.more b100 (Nat.le_refl _)
    replace h2 := h2.more b100 (Nat.le_refl _)
    replace j26 := j26.more b100 (Nat.le_refl _)
    replace j27 := j27.more b100 (Nat.le_refl _)
    replace j43 := j43.more b100 (Nat.le_refl _)
    replace j44 := j44.more b100 (Nat.le_refl _)
    replace j61 := j61.more b100 (Nat.le_refl _)
    replace j62 := j62.more b100 (Nat.le_refl _)
    replace k3 := k3.below b100
    replace k8 := k8.below b100
    replace k39 := k39.below b100
    replace k57 := k57.below b100
    replace k76 := k76.below b100
    replace k93 := k93.below b100
    replace hB := below_then hB b100
    replace hL := LL.more hL z101
    refine WL.do (dx_storeW (vs := (encS ((readS secs loose down a).1))) rfl ty_size_27_128 rfl rfl rfl (oc_S ((readS secs loose down a).1)) k99 (by rw [encS_len]; exact (readS_len h1 h2)) (by rw [encS_len]; exact z0_len)) rfl ?_
    rintro _ W109 ⟨k111, o110⟩
    replace k3 := k3.other o110 n102
    replace k8 := k8.other o110 n103
    replace k39 := k39.other o110 n104
    replace k57 := k57.other o110 n105
    replace k76 := k76.other o110 n106
    replace k93 := k93.other o110 n107
    clear k99
    replace h1 := h1.only o110 (.head _)
    replace h2 := h2.only o110 (.head _)
    replace j26 := j26.only o110 (.head _)
    replace j27 := j27.only o110 (.head _)
    replace j43 := j43.only o110 (.head _)
    replace j44 := j44.only o110 (.head _)
    replace j61 := j61.only o110 (.head _)
    replace j62 := j62.only o110 (.head _)
    replace hB := o110.below hB l108
    replace hL := LL.only hL o110
    refine WL.val (dx_assign rfl rfl) rfl rfl ?_
    refine WL.nil ?_
    refine hK94 ?_
    refine WC.seq fun K112 hK112 => ?_
    refine WC.drawM 30 [(some 48, .is (.agg #[u41, u42, .int .i64 ((writeS secs loose fuse down a z).fuse), .bool ((writeS secs loose fuse down a z).down)])), (some 49, .is (.agg #[u59, u60, .int .i64 ((writeS secs loose fuse down a z).fuse), .bool ((writeS secs loose fuse down a z).down)])), (some 50, .is (.bool true)), (some 51, .is (.bool true)), (some 52, .is (.int .i64 ((writeS secs loose fuse down a z).err))), (some 53, .is (.int .i64 ((writeS secs loose fuse down a z).err))), (some 54, .is (.bool true)), (some 55, .is (.bool true)), (some 56, .is (.bool true)), (some 57, .is (.agg (encS ((readS secs loose down a).1)).toArray)), (some 58, .is (.agg (encS ((readS secs loose down a).1)).toArray)), (some 59, .is (.bool true)), (some 60, .is (.bool true)), (some 61, .is (.bool true)), (some 62, .is (.int .i64 ((readS secs loose down a).2))), (some 63, .is (.int .i64 ((readS secs loose down a).2))), (some 64, .is (.bool true)), (some 65, .is (.bool true)), (some 66, .is (.bool true)), (some 67, .is (.agg #[u24, u25, .int .i64 fuse, .bool down])), (some 68, .is (.bool (rightD secs loose))), (some 69, .is (.agg #[s1, s2, .int .i64 fuse, .bool down])), (some 70, .is (.bool (rightD secs loose))), (some 71, .is (.bool true)), (some 72, .is (.bool true)), (some 73, .is (.bool true)), (some 74, .is (.agg #[u24, u25, .int .i64 fuse, .bool down])), (some 75, .is (.agg #[s1, s2, .int .i64 fuse, .bool down])), (some 76, .is (.bool true)), (some 77, .is (.bool true))] [[], [], [0, 1], [2, 2], [3], [3], [4, 5, 3], [3, 6], [7, 3], [8], [8], [9, 10, 8], [8, 11], [12, 8], [13], [13], [14, 15, 13], [13, 16], [17, 13], [18], [19, 18, 18], [18], [21, 20, 18], [20, 22, 18], [18, 23], [24, 22], [25], [25], [26, 27, 25, 25], [25, 28]] (by kernel_rfl) (by kernel_rfl) (by kernel_rfl) (by kernel_rfl) (by kernel_rfl) (by kernel_rfl) (by kernel_rfl) (by exact trivial) ?_ ?_
    ·
      refine DSteps.cons (fun Wd hd => ?_) ?_
      ·
        have k57 := k57.below hd
        exact DV.dr (dx_loadN rfl ty_agg_25_4 rfl k57.range rfl) ⟨Below.refl _ _, rfl⟩
      refine DSteps.cons (fun Wd hd => ?_) ?_
      ·
        have k76 := k76.below hd
        exact DV.dr (dx_loadN rfl ty_agg_25_4 rfl k76.range rfl) ⟨Below.refl _ _, rfl⟩
      refine DSteps.cons (fun Wd hd => ?_) ?_
      ·
        have j43 := j43.below hd
        have j44 := j44.below hd
        have j61 := j61.below hd
        have j62 := j62.below hd
        exact DR.mono (dx_cv rfl Try.func15 rfl rfl rfl (same_v ((writeS secs loose fuse down a z).secs) ((writeS secs loose fuse down a z).loose) ((writeS secs loose fuse down a z).fuse) ((writeS secs loose fuse down a z).down) _ _ _ _ Wd _ (LL.below hL hd) j43 j44 j61 j62)) (fun v W' ⟨h, hb⟩ => ⟨hb, (by rw [h]; exact rfl)⟩)
      refine DSteps.cons (fun Wd hd => ?_) ?_
      ·
        exact DV.dr (dx_move rfl rfl) ⟨Below.refl _ _, rfl⟩
      refine DSteps.cons (fun Wd hd => ?_) ?_
      ·
        exact DV.dr (dx_move rfl rfl) ⟨Below.refl _ _, rfl⟩
      refine DSteps.cons (fun Wd hd => ?_) ?_
      ·
        exact DV.dr (dx_move rfl rfl) ⟨Below.refl _ _, rfl⟩
      refine DSteps.cons (fun Wd hd => ?_) ?_
      ·
        exact DV.dr (dv_T (dx_eql rfl rfl rfl) rfl) ⟨Below.refl _ _, rfl⟩
      refine DSteps.cons (fun Wd hd => ?_) ?_
      ·
        exact DV.dr (dx_pick rfl rfl rfl) ⟨Below.refl _ _, rfl⟩
      refine DSteps.cons (fun Wd hd => ?_) ?_
      ·
        exact DV.dr (dx_move rfl rfl) ⟨Below.refl _ _, rfl⟩
      refine DSteps.cons (fun Wd hd => ?_) ?_
      ·
        have j26 := j26.below hd
        have j27 := j27.below hd
        have k93 := k93.below hd
        exact DV.dr (dx_loadN rfl ty_agg_27_128 rfl k93.range (by rw [encS_len]; exact (readS_len j26 j27))) ⟨Below.refl _ _, rfl⟩
      refine DSteps.cons (fun Wd hd => ?_) ?_
      ·
        have h1 := h1.below hd
        have h2 := h2.below hd
        have k111 := k111.below hd
        exact DV.dr (dx_loadN rfl ty_agg_27_128 rfl k111.range (by rw [encS_len]; exact (readS_len h1 h2))) ⟨Below.refl _ _, rfl⟩
      refine DSteps.cons (fun Wd hd => ?_) ?_
      ·
        have h1 := h1.below hd
        have h2 := h2.below hd
        have j26 := j26.below hd
        have j27 := j27.below hd
        exact DV.dr (dv_T (dx_eqA (K := .u8) (xs := (readS secs loose down a).1) (ys := (readS secs loose down a).1) rfl Try.underlying27 Try.underlying5 ty_size_5_1 (by kernel_rfl) rfl rfl (readS_len j26 j27) (readS_len h1 h2)) rfl) ⟨Below.refl _ _, rfl⟩
      refine DSteps.cons (fun Wd hd => ?_) ?_
      ·
        exact DV.dr (dx_pick rfl rfl rfl) ⟨Below.refl _ _, rfl⟩
      refine DSteps.cons (fun Wd hd => ?_) ?_
      ·
        exact DV.dr (dx_move rfl rfl) ⟨Below.refl _ _, rfl⟩
      refine DSteps.cons (fun Wd hd => ?_) ?_
      ·
        exact DV.dr (dx_move rfl rfl) ⟨Below.refl _ _, rfl⟩
      refine DSteps.cons (fun Wd hd => ?_) ?_
      ·
        exact DV.dr (dx_move rfl rfl) ⟨Below.refl _ _, rfl⟩
      refine DSteps.cons (fun Wd hd => ?_) ?_
      ·
        exact DV.dr (dv_T (dx_eql rfl rfl rfl) rfl) ⟨Below.refl _ _, rfl⟩
      refine DSteps.cons (fun Wd hd => ?_) ?_
      ·
        exact DV.dr (dx_pick rfl rfl rfl) ⟨Below.refl _ _, rfl⟩
      refine DSteps.cons (fun Wd hd => ?_) ?_
      ·
        exact DV.dr (dx_move rfl rfl) ⟨Below.refl _ _, rfl⟩
      refine DSteps.cons (fun Wd hd => ?_) ?_
      ·
        have k39 := k39.below hd
        exact DV.dr (dx_loadN rfl ty_agg_25_4 rfl k39.range rfl) ⟨Below.refl _ _, rfl⟩
      refine DSteps.cons (fun Wd hd => ?_) ?_
      ·
        have j26 := j26.below hd
        have j27 := j27.below hd
        exact DR.mono (dx_cv rfl Try.func16 rfl rfl rfl (right_v secs loose fuse down _ _ Wd _ (LL.below hL hd) j26 j27)) (fun v W' ⟨h, hb⟩ => ⟨hb, (by rw [h]; exact rfl)⟩)
      refine DSteps.cons (fun Wd hd => ?_) ?_
      ·
        have k3 := k3.below hd
        exact DV.dr (dx_loadN rfl ty_agg_25_4 rfl k3.range rfl) ⟨Below.refl _ _, rfl⟩
      refine DSteps.cons (fun Wd hd => ?_) ?_
      ·
        have h1 := h1.below hd
        have h2 := h2.below hd
        exact DR.mono (dx_cv rfl Try.func17 rfl rfl rfl (rright_v secs loose fuse down _ _ Wd _ (LL.below hL hd) h1 h2)) (fun v W' ⟨h, hb⟩ => ⟨hb, (by rw [h]; exact rfl)⟩)
      refine DSteps.cons (fun Wd hd => ?_) ?_
      ·
        exact DV.dr (dv_T (dx_eqB rfl Try.underlying4 rfl rfl) rfl) ⟨Below.refl _ _, rfl⟩
      refine DSteps.cons (fun Wd hd => ?_) ?_
      ·
        exact DV.dr (dx_pick rfl rfl rfl) ⟨Below.refl _ _, rfl⟩
      refine DSteps.cons (fun Wd hd => ?_) ?_
      ·
        exact DV.dr (dx_move rfl rfl) ⟨Below.refl _ _, rfl⟩
      refine DSteps.cons (fun Wd hd => ?_) ?_
      ·
        have k39 := k39.below hd
        exact DV.dr (dx_loadN rfl ty_agg_25_4 rfl k39.range rfl) ⟨Below.refl _ _, rfl⟩
      refine DSteps.cons (fun Wd hd => ?_) ?_
      ·
        have k3 := k3.below hd
        exact DV.dr (dx_loadN rfl ty_agg_25_4 rfl k3.range rfl) ⟨Below.refl _ _, rfl⟩
      refine DSteps.cons (fun Wd hd => ?_) ?_
      ·
        have h1 := h1.below hd
        have h2 := h2.below hd
        have j26 := j26.below hd
        have j27 := j27.below hd
        exact DR.mono (dx_cv rfl Try.func15 rfl rfl rfl (same_v secs loose fuse down _ _ _ _ Wd _ (LL.below hL hd) j26 j27 h1 h2)) (fun v W' ⟨h, hb⟩ => ⟨hb, (by rw [h]; exact rfl)⟩)
      refine DSteps.cons (fun Wd hd => ?_) ?_
      ·
        exact DV.dr (dx_pick rfl rfl rfl) ⟨Below.refl _ _, rfl⟩
      exact trivial
    ·
      intro W113 b114
      replace h1 := h1.below b114
      replace h2 := h2.below b114
      replace j26 := j26.below b114
      replace j27 := j27.below b114
      replace j43 := j43.below b114
      replace j44 := j44.below b114
      replace j61 := j61.below b114
      replace j62 := j62.below b114
      replace k3 := k3.below b114
      replace k8 := k8.below b114
      replace k39 := k39.below b114
      replace k57 := k57.below b114
      replace k76 := k76.below b114
      replace k93 := k93.below b114
      replace k111 := k111.below b114
      replace hB := below_then hB b114
      replace hL := LL.below hL b114
      refine WL.val (dx_assign rfl rfl) rfl rfl ?_
      refine WL.nil ?_
      refine hK112 ?_
      refine WC.ret fun a_ ha_ => ?_
      exact hQ (cv_ret1 rfl (.tmp rfl) rfl hB ha_)

end Go.Proofs.Ythefddclefimoaa

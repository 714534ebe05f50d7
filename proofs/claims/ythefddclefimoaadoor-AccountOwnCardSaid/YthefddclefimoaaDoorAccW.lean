/- AccountOwn, walked. -/
import Derived.Test.YthefddclefimoaaDoorAccL
namespace Go.Proofs.YthefddclefimoaaDoor
open Go.RowKit
set_option linter.unusedVariables false
set_option linter.unusedSimpArgs false
set_option maxRecDepth 8000

theorem arr3U : arr3B Tryd.prog 31 = true := by kernel_rfl
set_option maxHeartbeats 1000000 in
theorem accountOwn_v (xs : List UserX) (a0 a1 doc : ByteArray) (sv : Value) (w : World) (L : List Nat) (hL : LL L w) (h1 : RdF 3 L w sv (xs.map encU)) (h2 : AgU L w xs) (hM : MaxL L w) : CV Tryd.prog 3 [sv, .agg #[.string a0, .string a1], .string doc] w fun v W => v = .bool true := by
  refine cv_enter (N := 100) (f := [(0, sv), (1, .agg #[.string a0, .string a1]), (2, .string doc)]) Tryd.func3 rfl rfl rfl rfl fun Q hQ hE => ?_
  have hB := Below.refl w.heap.size w
  have h1m : xs.length ≤ maxLen := by have := h1.len; rwa [List.length_map] at this
  unfold maxLen at h1m
  refine WC.seq fun K1 hK1 => ?_
  refine WC.region ?_
  refine WL.get (dx_box rfl rfl rfl) rfl rfl ?_
  rintro _ W2 ⟨rfl, k3, b4, z5⟩
  have l6 := hB.size
  replace h1 := h1.more b4 (Nat.le_refl _)
  replace h2 := h2.more b4 (Nat.le_refl _)
  replace hM := hM.more b4 (Nat.le_refl _)
  replace hB := below_then hB b4
  replace hL := LL.more hL z5
  refine WL.val (dx_assign rfl rfl) rfl rfl ?_
  refine WL.nil ?_
  refine hK1 ?_
  refine WC.seq fun K7 hK7 => ?_
  refine WC.seq fun K8 hK8 => ?_
  refine WC.region ?_
  refine WL.get (dx_cv rfl Tryd.func7 rfl rfl rfl (alive17_v W2 _ hL hM)) rfl rfl ?_
  rintro _ W10 ⟨rfl, b9⟩
  replace h1 := h1.below b9
  replace h2 := h2.below b9
  replace hM := hM.below b9
  replace k3 := k3.below b9
  replace hB := below_then hB b9
  replace hL := LL.below hL b9
  refine WL.val (dx_not rfl rfl) rfl rfl ?_
  refine WL.nil ?_
  refine hK8 ?_
  refine WC.condF rfl ?_
  refine WC.skip ?_
  refine hK7 ?_
  refine WC.seq fun K11 hK11 => ?_
  refine WC.seq fun K12 hK12 => ?_
  refine WC.region ?_
  refine WL.val (dx_move rfl rfl) rfl rfl ?_
  refine WL.get (dx_cv rfl Tryd.func8 rfl rfl rfl (great_v xs _ W10 _ hL h1 h2)) rfl rfl ?_
  rintro _ W15 ⟨⟨gr13, rfl⟩, b14⟩
  replace h1 := h1.below b14
  replace h2 := h2.below b14
  replace hM := hM.below b14
  replace k3 := k3.below b14
  replace hB := below_then hB b14
  replace hL := LL.below hL b14
  refine WL.val (dx_move rfl rfl) rfl rfl ?_
  refine WL.split 23 rfl (fun g16 => ?_) (fun g16 => ?_)
  ·
    refine WL.off rfl rfl rfl ?_
    refine WL.off rfl rfl rfl ?_
    refine WL.off rfl rfl rfl ?_
    refine WL.off rfl rfl rfl ?_
    refine WL.off rfl rfl rfl ?_
    refine WL.val (dx_pick rfl rfl rfl) rfl rfl ?_
    refine WL.nil ?_
    refine hK12 ?_
    refine WC.condT rfl ?_
    refine WC.seq fun K17 hK17 => ?_
    refine WC.region ?_
    refine WL.val (dx_assign rfl rfl) rfl rfl ?_
    refine WL.nil ?_
    refine hK17 ?_
    refine WC.ret fun a_ ha_ => ?_
    exact hQ (cv_ret1 rfl (.tmp rfl) rfl hB ha_)
  ·
    replace g16 := bvar_f g16
    refine WL.val (dx_idxA (o1 := 0) rfl Tryd.underlying23 ty_size_9_1 rfl rfl (by omega) rfl) rfl rfl ?_
    refine WL.val (dx_load rfl ty_one_9 rfl (k3.cell (k := 0) rfl)) rfl rfl ?_
    refine WL.val (dx_idxA (o1 := 1) rfl Tryd.underlying23 ty_size_9_1 rfl rfl (by omega) rfl) rfl rfl ?_
    refine WL.val (dx_load rfl ty_one_9 rfl (k3.cell (k := 1) rfl)) rfl rfl ?_
    refine WL.val (dx_eqlT rfl rfl rfl) rfl rfl ?_
    refine WL.val (dx_pick rfl rfl rfl) rfl rfl ?_
    refine WL.nil ?_
    refine hK12 ?_
    refine WC.cond rfl (fun c18 => ?_) (fun c18 => ?_)
    ·
      replace c18 := of_decide_eq_true c18
      refine WC.seq fun K19 hK19 => ?_
      refine WC.region ?_
      refine WL.val (dx_assign rfl rfl) rfl rfl ?_
      refine WL.nil ?_
      refine hK19 ?_
      refine WC.ret fun a_ ha_ => ?_
      exact hQ (cv_ret1 rfl (.tmp rfl) rfl hB ha_)
    ·
      replace c18 := of_decide_eq_false c18
      refine WC.skip ?_
      refine hK11 ?_
      refine WC.seq fun K20 hK20 => ?_
      have hne : a0 ≠ a1 := (by assumption)
      refine WC.region ?_
      refine WL.val (dx_move rfl rfl) rfl rfl ?_
      refine WL.val (dx_idxA (o1 := 0) rfl Tryd.underlying23 ty_size_9_1 rfl rfl (by omega) rfl) rfl rfl ?_
      refine WL.val (dx_load rfl ty_one_9 rfl (k3.cell (k := 0) rfl)) rfl rfl ?_
      refine WL.val (dx_move rfl rfl) rfl rfl ?_
      refine WL.get (dx_lit1 (r := [.string doc]) rfl ty_ap_55 (by decide) (by decide) rfl rfl rfl) rfl rfl ?_
      rintro u21 W22 ⟨k23, b24, z25⟩
      have h26 : RdF 1 (w.heap.size :: L) W22 u21 ([doc].map encT) := k23.notin hL (Nat.le_refl _)
      replace h1 := h1.below b24
      replace h2 := h2.below b24
      replace hM := hM.below b24
      replace k3 := k3.below b24
      replace hB := below_then hB b24
      replace hL := LL.below hL b24
      refine WL.get (dx_cv rfl Tryd.func9 rfl rfl rfl (agree_v xs a0 [doc] _ _ W22 _ hL h1 h2 hM h26 (by simp))) rfl rfl ?_
      rintro _ W32 ⟨⟨u27, av30, rfl, j28, j29⟩, b31⟩
      replace h1 := h1.below b31
      replace h2 := h2.below b31
      replace hM := hM.below b31
      replace h26 := h26.below b31
      replace k3 := k3.below b31
      replace hB := below_then hB b31
      replace hL := LL.below hL b31
      refine WL.val (dx_move rfl rfl) rfl rfl ?_
      refine WL.val (dx_extract rfl rfl rfl) rfl rfl ?_
      refine WL.val (dx_extract rfl rfl rfl) rfl rfl ?_
      refine WL.val (dx_assign rfl rfl) rfl rfl ?_
      refine WL.val (dx_assign rfl rfl) rfl rfl ?_
      refine WL.nil ?_
      refine hK20 ?_
      refine WC.seq fun K33 hK33 => ?_
      refine WC.region ?_
      refine WL.val (dx_move rfl rfl) rfl rfl ?_
      refine WL.val (dx_idxA (o1 := 0) rfl Tryd.underlying23 ty_size_9_1 rfl rfl (by omega) rfl) rfl rfl ?_
      refine WL.val (dx_load rfl ty_one_9 rfl (k3.cell (k := 0) rfl)) rfl rfl ?_
      refine WL.get (dx_cv rfl Tryd.func10 rfl rfl rfl (logout_v xs a0 _ W32 _ hL h1 h2 hM)) rfl rfl ?_
      rintro _ W38 ⟨⟨u34, rfl, j35, j36⟩, b37⟩
      replace h1 := h1.below b37
      replace h2 := h2.below b37
      replace hM := hM.below b37
      replace h26 := h26.below b37
      replace j28 := j28.below b37
      replace j29 := j29.below b37
      replace k3 := k3.below b37
      replace hB := below_then hB b37
      replace hL := LL.below hL b37
      refine WL.val (dx_move rfl rfl) rfl rfl ?_
      refine WL.val (dx_extract rfl rfl rfl) rfl rfl ?_
      refine WL.val (dx_extract rfl rfl rfl) rfl rfl ?_
      refine WL.val (dx_assign rfl rfl) rfl rfl ?_
      refine WL.val (dx_assign rfl rfl) rfl rfl ?_
      refine WL.nil ?_
      refine hK33 ?_
      refine WC.seq fun K39 hK39 => ?_
      refine WC.region ?_
      refine WL.val (dx_move rfl rfl) rfl rfl ?_
      refine WL.val (dx_idxA (o1 := 0) rfl Tryd.underlying23 ty_size_9_1 rfl rfl (by omega) rfl) rfl rfl ?_
      refine WL.val (dx_load rfl ty_one_9 rfl (k3.cell (k := 0) rfl)) rfl rfl ?_
      refine WL.get (dx_cv rfl Tryd.func11 rfl rfl rfl (register_v xs a0 ({ data := #[64, 110, 101, 119, 58, 104] }) _ W38 _ hL h1 h2 hM)) rfl rfl ?_
      rintro _ W44 ⟨⟨u40, rfl, j41, j42⟩, b43⟩
      replace h1 := h1.below b43
      replace h2 := h2.below b43
      replace hM := hM.below b43
      replace h26 := h26.below b43
      replace j28 := j28.below b43
      replace j29 := j29.below b43
      replace j35 := j35.below b43
      replace j36 := j36.below b43
      replace k3 := k3.below b43
      replace hB := below_then hB b43
      replace hL := LL.below hL b43
      refine WL.val (dx_move rfl rfl) rfl rfl ?_
      refine WL.val (dx_extract rfl rfl rfl) rfl rfl ?_
      refine WL.val (dx_extract rfl rfl rfl) rfl rfl ?_
      refine WL.val (dx_assign rfl rfl) rfl rfl ?_
      refine WL.val (dx_assign rfl rfl) rfl rfl ?_
      refine WL.nil ?_
      refine hK39 ?_
      refine WC.seq fun K45 hK45 => ?_
      refine WC.seq fun K46 hK46 => ?_
      refine WC.region ?_
      refine WL.val (dx_assign rfl rfl) rfl rfl ?_
      refine WL.nil ?_
      refine hK46 ?_
      refine WC.block ?_
      refine WC.loop (fun (i : Nat) => [(0, sv), (2, .string doc), (4, .pointer (some ⟨w.heap.size, 0, none⟩)), (7, u27), (9, u34), (11, u40), (13, .int .i64 (i : Int))]) (fun (i : Nat) W => i ≤ 3 ∧ Below w.heap.size w W ∧ LL (w.heap.size :: L) W ∧ RdF 3 (w.heap.size :: L) W sv (xs.map encU) ∧ AgU (w.heap.size :: L) W xs ∧ MaxL (w.heap.size :: L) W ∧ RdF 1 (w.heap.size :: L) W u21 ([doc].map encT) ∧ RdF 3 (w.heap.size :: L) W u27 ((agrU xs a0 [doc] av30).map encU) ∧ AgU (w.heap.size :: L) W (agrU xs a0 [doc] av30) ∧ RdF 3 (w.heap.size :: L) W u34 ((logU xs a0).map encU) ∧ AgU (w.heap.size :: L) W (logU xs a0) ∧ RdF 3 (w.heap.size :: L) W u40 ((regU xs a0 ({ data := #[64, 110, 101, 119, 58, 104] })).map encU) ∧ AgU (w.heap.size :: L) W (regU xs a0 ({ data := #[64, 110, 101, 119, 58, 104] })) ∧ Blk W w.heap.size [.string a0, .string a1]) (fun (i : Nat) => 3 - i) 0 (by repeat first | exact trivial | exact And.intro rfl trivial | refine And.intro rfl ?_ | refine And.intro (congrArg (fun z : Int => some (Value.int .i64 z)) (by omega)) ?_) ⟨Nat.zero_le _, hB, hL, h1, h2, hM, h26, j28, j29, j35, j36, j41, j42, k3⟩ ?_
      clear h1 h2 hM h26 j28 j29 j35 j36 j41 j42 k3 hB hL
      rintro K47 i W48 ⟨hi, hB, hL, h1, h2, hM, h26, j28, j29, j35, j36, j41, j42, k3⟩ hK47
      refine WC.seq fun K49 hK49 => ?_
      refine WC.seq fun K50 hK50 => ?_
      refine WC.region ?_
      refine WL.val (dx_move rfl rfl) rfl rfl ?_
      refine WL.val (dx_lss rfl rfl rfl) rfl rfl ?_
      refine WL.nil ?_
      refine hK50 ?_
      refine WC.cond rfl (fun c51 => ?_) (fun c51 => ?_)
      ·
        replace c51 := of_decide_eq_true c51
        refine WC.skip ?_
        refine hK49 ?_
        refine WC.seq fun K52 hK52 => ?_
        refine WC.block ?_
        refine WC.seq fun K53 hK53 => ?_
        rcases (show i = 0 ∨ i = 1 ∨ i = 2 by omega) with rfl | rfl | rfl
        ·
          refine WC.region ?_
          refine WL.val (dx_move rfl rfl) rfl rfl ?_
          refine WL.val (dx_move rfl rfl) rfl rfl ?_
          refine WL.val (dx_move rfl rfl) rfl rfl ?_
          refine WL.val (dx_build (cs := [u27, u34, u40]) rfl rfl (built3 arr3U j28.one j35.one j41.one)) rfl rfl ?_
          refine WL.val (dx_move rfl rfl) rfl rfl ?_
          refine WL.val (dx_ixA 0 rfl arr3U rfl rfl rfl rfl) rfl rfl ?_
          refine WL.val (dx_assign rfl rfl) rfl rfl ?_
          refine WL.nil ?_
          refine hK53 ?_
          refine WC.seq fun K54 hK54 => ?_
          refine WC.region ?_
          refine WL.val (dx_move rfl rfl) rfl rfl ?_
          refine WL.val (dx_idxA (o1 := 1) rfl Tryd.underlying23 ty_size_9_1 rfl rfl (by omega) rfl) rfl rfl ?_
          refine WL.val (dx_load rfl ty_one_9 rfl (k3.cell (k := 1) rfl)) rfl rfl ?_
          refine WL.get (dx_cv rfl Tryd.func12 rfl rfl rfl (whose_v xs a1 _ W48 _ hL h1 h2 hM)) rfl rfl ?_
          rintro _ W56 ⟨rfl, b55⟩
          replace h1 := h1.below b55
          replace h2 := h2.below b55
          replace hM := hM.below b55
          replace h26 := h26.below b55
          replace j28 := j28.below b55
          replace j29 := j29.below b55
          replace j35 := j35.below b55
          replace j36 := j36.below b55
          replace j41 := j41.below b55
          replace j42 := j42.below b55
          replace k3 := k3.below b55
          replace hB := below_then hB b55
          replace hL := LL.below hL b55
          refine WL.val (dx_move rfl rfl) rfl rfl ?_
          refine WL.val (dx_extract rfl rfl rfl) rfl rfl ?_
          refine WL.val (dx_extract rfl rfl rfl) rfl rfl ?_
          refine WL.val (dx_assign rfl rfl) rfl rfl ?_
          refine WL.val (dx_assign rfl rfl) rfl rfl ?_
          refine WL.nil ?_
          refine hK54 ?_
          refine WC.seq fun K57 hK57 => ?_
          refine WC.region ?_
          refine WL.val (dx_move rfl rfl) rfl rfl ?_
          refine WL.val (dx_idxA (o1 := 1) rfl Tryd.underlying23 ty_size_9_1 rfl rfl (by omega) rfl) rfl rfl ?_
          refine WL.val (dx_load rfl ty_one_9 rfl (k3.cell (k := 1) rfl)) rfl rfl ?_
          refine WL.get (dx_cv rfl Tryd.func12 rfl rfl rfl (who_as (xs := xs) agr_right (agr_view hne) hL j28 j29 hM)) rfl rfl ?_
          rintro _ W59 ⟨rfl, b58⟩
          replace h1 := h1.below b58
          replace h2 := h2.below b58
          replace hM := hM.below b58
          replace h26 := h26.below b58
          replace j28 := j28.below b58
          replace j29 := j29.below b58
          replace j35 := j35.below b58
          replace j36 := j36.below b58
          replace j41 := j41.below b58
          replace j42 := j42.below b58
          replace k3 := k3.below b58
          replace hB := below_then hB b58
          replace hL := LL.below hL b58
          refine WL.val (dx_move rfl rfl) rfl rfl ?_
          refine WL.val (dx_extract rfl rfl rfl) rfl rfl ?_
          refine WL.val (dx_extract rfl rfl rfl) rfl rfl ?_
          refine WL.val (dx_assign rfl rfl) rfl rfl ?_
          refine WL.val (dx_assign rfl rfl) rfl rfl ?_
          refine WL.nil ?_
          refine hK57 ?_
          refine WC.seq fun K60 hK60 => ?_
          refine WC.drawM 23 [(some 77, .is (.string ((whoU xs a1).1))), (some 78, .is (.string ((whoU xs a1).1))), (some 79, .is (.bool false)), (some 80, .is (.bool false)), (some 81, .is (.int .i64 ((whoU xs a1).2))), (some 82, .is (.int .i64 ((whoU xs a1).2))), (some 83, .is (.bool false)), (some 84, .is (.bool false)), (some 85, .is (.bool false)), (some 86, .is (sv)), (some 87, .is (.pointer (some ⟨w.heap.size, 1, none⟩))), (some 88, .is (.string a1)), (some 89, .is (.string doc)), (some 90, .by fun u W => RdF 1 (w.heap.size :: L) W u ([doc].map encT)), (some 91, .is (.int .i64 (agdU xs a1 [doc]))), (some 92, .is (u27)), (some 93, .is (.pointer (some ⟨w.heap.size, 1, none⟩))), (some 94, .is (.string a1)), (some 95, .is (.string doc)), (some 96, .by fun u W => RdF 1 (w.heap.size :: L) W u ([doc].map encT)), (some 97, .is (.int .i64 (agdU xs a1 [doc]))), (some 98, .is (.bool false)), (some 99, .is (.bool false))] [[], [], [0, 1], [2], [3], [3], [4, 5, 3], [3, 6], [7, 3], [8], [8], [10, 8], [8], [12, 8], [9, 11, 13, 8, 8], [8], [8], [16, 8], [8], [18, 8], [15, 17, 19, 14, 8], [14, 20, 8], [8, 21]] (by kernel_rfl) (by kernel_rfl) (by kernel_rfl) (by kernel_rfl) (by kernel_rfl) (by kernel_rfl) (by kernel_rfl) ⟨fun _ _ _ hb h => h.below hb, fun _ _ _ hb h => h.below hb, trivial⟩ ?_ ?_
          ·
            refine DSteps.cons (fun Wd hd => ?_) ?_
            ·
              exact DV.dr (dx_move rfl rfl) ⟨Below.refl _ _, rfl⟩
            refine DSteps.cons (fun Wd hd => ?_) ?_
            ·
              exact DV.dr (dx_move rfl rfl) ⟨Below.refl _ _, rfl⟩
            refine DSteps.cons (fun Wd hd => ?_) ?_
            ·
              exact DV.dr (dv_F (dx_neqT rfl rfl rfl) rfl) ⟨Below.refl _ _, rfl⟩
            refine DSteps.cons (fun Wd hd => ?_) ?_
            ·
              exact DV.dr (dx_move rfl rfl) ⟨Below.refl _ _, rfl⟩
            refine DSteps.cons (fun Wd hd => ?_) ?_
            ·
              exact DV.dr (dx_move rfl rfl) ⟨Below.refl _ _, rfl⟩
            refine DSteps.cons (fun Wd hd => ?_) ?_
            ·
              exact DV.dr (dx_move rfl rfl) ⟨Below.refl _ _, rfl⟩
            refine DSteps.cons (fun Wd hd => ?_) ?_
            ·
              exact DV.dr (dv_F (dx_neq rfl rfl rfl) rfl) ⟨Below.refl _ _, rfl⟩
            refine DSteps.cons (fun Wd hd => ?_) ?_
            ·
              exact DV.dr (dx_pick rfl rfl rfl) ⟨Below.refl _ _, rfl⟩
            refine DSteps.cons (fun Wd hd => ?_) ?_
            ·
              exact DV.dr (dx_move rfl rfl) ⟨Below.refl _ _, rfl⟩
            refine DSteps.cons (fun Wd hd => ?_) ?_
            ·
              exact DV.dr (dx_move rfl rfl) ⟨Below.refl _ _, rfl⟩
            refine DSteps.cons (fun Wd hd => ?_) ?_
            ·
              exact DV.dr (dx_idxA (o1 := 1) rfl Tryd.underlying23 ty_size_9_1 rfl rfl (by omega) rfl) ⟨Below.refl _ _, rfl⟩
            refine DSteps.cons (fun Wd hd => ?_) ?_
            ·
              have k3 := k3.below hd
              exact DV.dr (dx_load rfl ty_one_9 rfl (k3.cell (k := 1) rfl)) ⟨Below.refl _ _, rfl⟩
            refine DSteps.cons (fun Wd hd => ?_) ?_
            ·
              exact DV.dr (dx_move rfl rfl) ⟨Below.refl _ _, rfl⟩
            refine DSteps.cons (fun Wd hd => ?_) ?_
            ·
              exact (dx_lit1 (r := [.string doc]) rfl ty_ap_55 (by decide) (by decide) rfl rfl rfl).mono (fun v W' h => ⟨h.2.1, h.1.notin (LL.below hL hd) (Nat.le_refl _)⟩)
            refine DSteps.cons (fun Wd hd => ?_) ?_
            ·
              intro u14_13 p14_13
              have h1 := h1.below hd
              have h2 := h2.below hd
              have hM := hM.below hd
              exact DR.mono (dx_cv rfl Tryd.func13 rfl rfl rfl (agreed_v xs a1 [doc] _ _ Wd _ (LL.below hL hd) h1 h2 hM p14_13)) (fun v W' ⟨h, hb⟩ => ⟨hb, (by rw [h]; exact rfl)⟩)
            refine DSteps.cons (fun Wd hd => ?_) ?_
            ·
              exact DV.dr (dx_move rfl rfl) ⟨Below.refl _ _, rfl⟩
            refine DSteps.cons (fun Wd hd => ?_) ?_
            ·
              exact DV.dr (dx_idxA (o1 := 1) rfl Tryd.underlying23 ty_size_9_1 rfl rfl (by omega) rfl) ⟨Below.refl _ _, rfl⟩
            refine DSteps.cons (fun Wd hd => ?_) ?_
            ·
              have k3 := k3.below hd
              exact DV.dr (dx_load rfl ty_one_9 rfl (k3.cell (k := 1) rfl)) ⟨Below.refl _ _, rfl⟩
            refine DSteps.cons (fun Wd hd => ?_) ?_
            ·
              exact DV.dr (dx_move rfl rfl) ⟨Below.refl _ _, rfl⟩
            refine DSteps.cons (fun Wd hd => ?_) ?_
            ·
              exact (dx_lit1 (r := [.string doc]) rfl ty_ap_55 (by decide) (by decide) rfl rfl rfl).mono (fun v W' h => ⟨h.2.1, h.1.notin (LL.below hL hd) (Nat.le_refl _)⟩)
            refine DSteps.cons (fun Wd hd => ?_) ?_
            ·
              intro u14_19 p14_19
              have hM := hM.below hd
              have j28 := j28.below hd
              have j29 := j29.below hd
              exact DR.mono (dx_cv rfl Tryd.func13 rfl rfl rfl (agd_as (xs := xs) (ts := [doc]) agr_right (agr_view hne) (LL.below hL hd) j28 j29 hM p14_19)) (fun v W' ⟨h, hb⟩ => ⟨hb, (by rw [h]; exact rfl)⟩)
            refine DSteps.cons (fun Wd hd => ?_) ?_
            ·
              exact DV.dr (dv_F (dx_neq rfl rfl rfl) rfl) ⟨Below.refl _ _, rfl⟩
            refine DSteps.cons (fun Wd hd => ?_) ?_
            ·
              exact DV.dr (dx_pick rfl rfl rfl) ⟨Below.refl _ _, rfl⟩
            exact trivial
          ·
            intro W61 b62
            intro u14_13 p14_13
            intro u14_19 p14_19
            replace h1 := h1.below b62
            replace h2 := h2.below b62
            replace hM := hM.below b62
            replace h26 := h26.below b62
            replace j28 := j28.below b62
            replace j29 := j29.below b62
            replace j35 := j35.below b62
            replace j36 := j36.below b62
            replace j41 := j41.below b62
            replace j42 := j42.below b62
            replace k3 := k3.below b62
            replace hB := below_then hB b62
            replace hL := LL.below hL b62
            refine WL.nil ?_
            refine hK60 ?_
            refine WC.condF rfl ?_
            refine WC.skip ?_
            refine hK52 ?_
            refine WC.region ?_
            refine WL.val (dx_move rfl rfl) rfl rfl ?_
            refine WL.val (dx_add (r := ((0 : Nat) : Int) + 1) rfl rfl rfl (wrap64_id (by omega))) rfl rfl ?_
            refine WL.val (dx_assign rfl rfl) rfl rfl ?_
            refine WL.nil ?_
            exact hK47 (0 + 1) ⟨(by omega), hB, hL, h1, h2, hM, h26, j28, j29, j35, j36, j41, j42, k3⟩ (by omega) (by repeat first | exact trivial | exact And.intro rfl trivial | refine And.intro rfl ?_ | refine And.intro (congrArg (fun z : Int => some (Value.int .i64 z)) (by omega)) ?_)
        ·
          refine WC.region ?_
          refine WL.val (dx_move rfl rfl) rfl rfl ?_
          refine WL.val (dx_move rfl rfl) rfl rfl ?_
          refine WL.val (dx_move rfl rfl) rfl rfl ?_
          refine WL.val (dx_build (cs := [u27, u34, u40]) rfl rfl (built3 arr3U j28.one j35.one j41.one)) rfl rfl ?_
          refine WL.val (dx_move rfl rfl) rfl rfl ?_
          refine WL.val (dx_ixA 1 rfl arr3U rfl rfl rfl rfl) rfl rfl ?_
          refine WL.val (dx_assign rfl rfl) rfl rfl ?_
          refine WL.nil ?_
          refine hK53 ?_
          refine WC.seq fun K63 hK63 => ?_
          refine WC.region ?_
          refine WL.val (dx_move rfl rfl) rfl rfl ?_
          refine WL.val (dx_idxA (o1 := 1) rfl Tryd.underlying23 ty_size_9_1 rfl rfl (by omega) rfl) rfl rfl ?_
          refine WL.val (dx_load rfl ty_one_9 rfl (k3.cell (k := 1) rfl)) rfl rfl ?_
          refine WL.get (dx_cv rfl Tryd.func12 rfl rfl rfl (whose_v xs a1 _ W48 _ hL h1 h2 hM)) rfl rfl ?_
          rintro _ W65 ⟨rfl, b64⟩
          replace h1 := h1.below b64
          replace h2 := h2.below b64
          replace hM := hM.below b64
          replace h26 := h26.below b64
          replace j28 := j28.below b64
          replace j29 := j29.below b64
          replace j35 := j35.below b64
          replace j36 := j36.below b64
          replace j41 := j41.below b64
          replace j42 := j42.below b64
          replace k3 := k3.below b64
          replace hB := below_then hB b64
          replace hL := LL.below hL b64
          refine WL.val (dx_move rfl rfl) rfl rfl ?_
          refine WL.val (dx_extract rfl rfl rfl) rfl rfl ?_
          refine WL.val (dx_extract rfl rfl rfl) rfl rfl ?_
          refine WL.val (dx_assign rfl rfl) rfl rfl ?_
          refine WL.val (dx_assign rfl rfl) rfl rfl ?_
          refine WL.nil ?_
          refine hK63 ?_
          refine WC.seq fun K66 hK66 => ?_
          refine WC.region ?_
          refine WL.val (dx_move rfl rfl) rfl rfl ?_
          refine WL.val (dx_idxA (o1 := 1) rfl Tryd.underlying23 ty_size_9_1 rfl rfl (by omega) rfl) rfl rfl ?_
          refine WL.val (dx_load rfl ty_one_9 rfl (k3.cell (k := 1) rfl)) rfl rfl ?_
          refine WL.get (dx_cv rfl Tryd.func12 rfl rfl rfl (who_as (xs := xs) log_right (log_view hne) hL j35 j36 hM)) rfl rfl ?_
          rintro _ W68 ⟨rfl, b67⟩
          replace h1 := h1.below b67
          replace h2 := h2.below b67
          replace hM := hM.below b67
          replace h26 := h26.below b67
          replace j28 := j28.below b67
          replace j29 := j29.below b67
          replace j35 := j35.below b67
          replace j36 := j36.below b67
          replace j41 := j41.below b67
          replace j42 := j42.below b67
          replace k3 := k3.below b67
          replace hB := below_then hB b67
          replace hL := LL.below hL b67
          refine WL.val (dx_move rfl rfl) rfl rfl ?_
          refine WL.val (dx_extract rfl rfl rfl) rfl rfl ?_
          refine WL.val (dx_extract rfl rfl rfl) rfl rfl ?_
          refine WL.val (dx_assign rfl rfl) rfl rfl ?_
          refine WL.val (dx_assign rfl rfl) rfl rfl ?_
          refine WL.nil ?_
          refine hK66 ?_
          refine WC.seq fun K69 hK69 => ?_
          refine WC.drawM 23 [(some 77, .is (.string ((whoU xs a1).1))), (some 78, .is (.string ((whoU xs a1).1))), (some 79, .is (.bool false)), (some 80, .is (.bool false)), (some 81, .is (.int .i64 ((whoU xs a1).2))), (some 82, .is (.int .i64 ((whoU xs a1).2))), (some 83, .is (.bool false)), (some 84, .is (.bool false)), (some 85, .is (.bool false)), (some 86, .is (sv)), (some 87, .is (.pointer (some ⟨w.heap.size, 1, none⟩))), (some 88, .is (.string a1)), (some 89, .is (.string doc)), (some 90, .by fun u W => RdF 1 (w.heap.size :: L) W u ([doc].map encT)), (some 91, .is (.int .i64 (agdU xs a1 [doc]))), (some 92, .is (u34)), (some 93, .is (.pointer (some ⟨w.heap.size, 1, none⟩))), (some 94, .is (.string a1)), (some 95, .is (.string doc)), (some 96, .by fun u W => RdF 1 (w.heap.size :: L) W u ([doc].map encT)), (some 97, .is (.int .i64 (agdU xs a1 [doc]))), (some 98, .is (.bool false)), (some 99, .is (.bool false))] [[], [], [0, 1], [2], [3], [3], [4, 5, 3], [3, 6], [7, 3], [8], [8], [10, 8], [8], [12, 8], [9, 11, 13, 8, 8], [8], [8], [16, 8], [8], [18, 8], [15, 17, 19, 14, 8], [14, 20, 8], [8, 21]] (by kernel_rfl) (by kernel_rfl) (by kernel_rfl) (by kernel_rfl) (by kernel_rfl) (by kernel_rfl) (by kernel_rfl) ⟨fun _ _ _ hb h => h.below hb, fun _ _ _ hb h => h.below hb, trivial⟩ ?_ ?_
          ·
            refine DSteps.cons (fun Wd hd => ?_) ?_
            ·
              exact DV.dr (dx_move rfl rfl) ⟨Below.refl _ _, rfl⟩
            refine DSteps.cons (fun Wd hd => ?_) ?_
            ·
              exact DV.dr (dx_move rfl rfl) ⟨Below.refl _ _, rfl⟩
            refine DSteps.cons (fun Wd hd => ?_) ?_
            ·
              exact DV.dr (dv_F (dx_neqT rfl rfl rfl) rfl) ⟨Below.refl _ _, rfl⟩
            refine DSteps.cons (fun Wd hd => ?_) ?_
            ·
              exact DV.dr (dx_move rfl rfl) ⟨Below.refl _ _, rfl⟩
            refine DSteps.cons (fun Wd hd => ?_) ?_
            ·
              exact DV.dr (dx_move rfl rfl) ⟨Below.refl _ _, rfl⟩
            refine DSteps.cons (fun Wd hd => ?_) ?_
            ·
              exact DV.dr (dx_move rfl rfl) ⟨Below.refl _ _, rfl⟩
            refine DSteps.cons (fun Wd hd => ?_) ?_
            ·
              exact DV.dr (dv_F (dx_neq rfl rfl rfl) rfl) ⟨Below.refl _ _, rfl⟩
            refine DSteps.cons (fun Wd hd => ?_) ?_
            ·
              exact DV.dr (dx_pick rfl rfl rfl) ⟨Below.refl _ _, rfl⟩
            refine DSteps.cons (fun Wd hd => ?_) ?_
            ·
              exact DV.dr (dx_move rfl rfl) ⟨Below.refl _ _, rfl⟩
            refine DSteps.cons (fun Wd hd => ?_) ?_
            ·
              exact DV.dr (dx_move rfl rfl) ⟨Below.refl _ _, rfl⟩
            refine DSteps.cons (fun Wd hd => ?_) ?_
            ·
              exact DV.dr (dx_idxA (o1 := 1) rfl Tryd.underlying23 ty_size_9_1 rfl rfl (by omega) rfl) ⟨Below.refl _ _, rfl⟩
            refine DSteps.cons (fun Wd hd => ?_) ?_
            ·
              have k3 := k3.below hd
              exact DV.dr (dx_load rfl ty_one_9 rfl (k3.cell (k := 1) rfl)) ⟨Below.refl _ _, rfl⟩
            refine DSteps.cons (fun Wd hd => ?_) ?_
            ·
              exact DV.dr (dx_move rfl rfl) ⟨Below.refl _ _, rfl⟩
            refine DSteps.cons (fun Wd hd => ?_) ?_
            ·
              exact (dx_lit1 (r := [.string doc]) rfl ty_ap_55 (by decide) (by decide) rfl rfl rfl).mono (fun v W' h => ⟨h.2.1, h.1.notin (LL.below hL hd) (Nat.le_refl _)⟩)
            refine DSteps.cons (fun Wd hd => ?_) ?_
            ·
              intro u14_13 p14_13
              have h1 := h1.below hd
              have h2 := h2.below hd
              have hM := hM.below hd
              exact DR.mono (dx_cv rfl Tryd.func13 rfl rfl rfl (agreed_v xs a1 [doc] _ _ Wd _ (LL.below hL hd) h1 h2 hM p14_13)) (fun v W' ⟨h, hb⟩ => ⟨hb, (by rw [h]; exact rfl)⟩)
            refine DSteps.cons (fun Wd hd => ?_) ?_
            ·
              exact DV.dr (dx_move rfl rfl) ⟨Below.refl _ _, rfl⟩
            refine DSteps.cons (fun Wd hd => ?_) ?_
            ·
              exact DV.dr (dx_idxA (o1 := 1) rfl Tryd.underlying23 ty_size_9_1 rfl rfl (by omega) rfl) ⟨Below.refl _ _, rfl⟩
            refine DSteps.cons (fun Wd hd => ?_) ?_
            ·
              have k3 := k3.below hd
              exact DV.dr (dx_load rfl ty_one_9 rfl (k3.cell (k := 1) rfl)) ⟨Below.refl _ _, rfl⟩
            refine DSteps.cons (fun Wd hd => ?_) ?_
            ·
              exact DV.dr (dx_move rfl rfl) ⟨Below.refl _ _, rfl⟩
            refine DSteps.cons (fun Wd hd => ?_) ?_
            ·
              exact (dx_lit1 (r := [.string doc]) rfl ty_ap_55 (by decide) (by decide) rfl rfl rfl).mono (fun v W' h => ⟨h.2.1, h.1.notin (LL.below hL hd) (Nat.le_refl _)⟩)
            refine DSteps.cons (fun Wd hd => ?_) ?_
            ·
              intro u14_19 p14_19
              have hM := hM.below hd
              have j35 := j35.below hd
              have j36 := j36.below hd
              exact DR.mono (dx_cv rfl Tryd.func13 rfl rfl rfl (agd_as (xs := xs) (ts := [doc]) log_right (log_view hne) (LL.below hL hd) j35 j36 hM p14_19)) (fun v W' ⟨h, hb⟩ => ⟨hb, (by rw [h]; exact rfl)⟩)
            refine DSteps.cons (fun Wd hd => ?_) ?_
            ·
              exact DV.dr (dv_F (dx_neq rfl rfl rfl) rfl) ⟨Below.refl _ _, rfl⟩
            refine DSteps.cons (fun Wd hd => ?_) ?_
            ·
              exact DV.dr (dx_pick rfl rfl rfl) ⟨Below.refl _ _, rfl⟩
            exact trivial
          ·
            intro W70 b71
            intro u14_13 p14_13
            intro u14_19 p14_19
            replace h1 := h1.below b71
            replace h2 := h2.below b71
            replace hM := hM.below b71
            replace h26 := h26.below b71
            replace j28 := j28.below b71
            replace j29 := j29.below b71
            replace j35 := j35.below b71
            replace j36 := j36.below b71
            replace j41 := j41.below b71
            replace j42 := j42.below b71
            replace k3 := k3.below b71
            replace hB := below_then hB b71
            replace hL := LL.below hL b71
            refine WL.nil ?_
            refine hK69 ?_
            refine WC.condF rfl ?_
            refine WC.skip ?_
            refine hK52 ?_
            refine WC.region ?_
            refine WL.val (dx_move rfl rfl) rfl rfl ?_
            refine WL.val (dx_add (r := ((1 : Nat) : Int) + 1) rfl rfl rfl (wrap64_id (by omega))) rfl rfl ?_
            refine WL.val (dx_assign rfl rfl) rfl rfl ?_
            refine WL.nil ?_
            exact hK47 (1 + 1) ⟨(by omega), hB, hL, h1, h2, hM, h26, j28, j29, j35, j36, j41, j42, k3⟩ (by omega) (by repeat first | exact trivial | exact And.intro rfl trivial | refine And.intro rfl ?_ | refine And.intro (congrArg (fun z : Int => some (Value.int .i64 z)) (by omega)) ?_)
        ·
          refine WC.region ?_
          refine WL.val (dx_move rfl rfl) rfl rfl ?_
          refine WL.val (dx_move rfl rfl) rfl rfl ?_
          refine WL.val (dx_move rfl rfl) rfl rfl ?_
          refine WL.val (dx_build (cs := [u27, u34, u40]) rfl rfl (built3 arr3U j28.one j35.one j41.one)) rfl rfl ?_
          refine WL.val (dx_move rfl rfl) rfl rfl ?_
          refine WL.val (dx_ixA 2 rfl arr3U rfl rfl rfl rfl) rfl rfl ?_
          refine WL.val (dx_assign rfl rfl) rfl rfl ?_
          refine WL.nil ?_
          refine hK53 ?_
          refine WC.seq fun K72 hK72 => ?_
          refine WC.region ?_
          refine WL.val (dx_move rfl rfl) rfl rfl ?_
          refine WL.val (dx_idxA (o1 := 1) rfl Tryd.underlying23 ty_size_9_1 rfl rfl (by omega) rfl) rfl rfl ?_
          refine WL.val (dx_load rfl ty_one_9 rfl (k3.cell (k := 1) rfl)) rfl rfl ?_
          refine WL.get (dx_cv rfl Tryd.func12 rfl rfl rfl (whose_v xs a1 _ W48 _ hL h1 h2 hM)) rfl rfl ?_
          rintro _ W74 ⟨rfl, b73⟩
          replace h1 := h1.below b73
          replace h2 := h2.below b73
          replace hM := hM.below b73
          replace h26 := h26.below b73
          replace j28 := j28.below b73
          replace j29 := j29.below b73
          replace j35 := j35.below b73
          replace j36 := j36.below b73
          replace j41 := j41.below b73
          replace j42 := j42.below b73
          replace k3 := k3.below b73
          replace hB := below_then hB b73
          replace hL := LL.below hL b73
          refine WL.val (dx_move rfl rfl) rfl rfl ?_
          refine WL.val (dx_extract rfl rfl rfl) rfl rfl ?_
          refine WL.val (dx_extract rfl rfl rfl) rfl rfl ?_
          refine WL.val (dx_assign rfl rfl) rfl rfl ?_
          refine WL.val (dx_assign rfl rfl) rfl rfl ?_
          refine WL.nil ?_
          refine hK72 ?_
          refine WC.seq fun K75 hK75 => ?_
          refine WC.region ?_
          refine WL.val (dx_move rfl rfl) rfl rfl ?_
          refine WL.val (dx_idxA (o1 := 1) rfl Tryd.underlying23 ty_size_9_1 rfl rfl (by omega) rfl) rfl rfl ?_
          refine WL.val (dx_load rfl ty_one_9 rfl (k3.cell (k := 1) rfl)) rfl rfl ?_
          refine WL.get (dx_cv rfl Tryd.func12 rfl rfl rfl (who_as (xs := xs) reg_right (reg_view hne) hL j41 j42 hM)) rfl rfl ?_
          rintro _ W77 ⟨rfl, b76⟩
          replace h1 := h1.below b76
          replace h2 := h2.below b76
          replace hM := hM.below b76
          replace h26 := h26.below b76
          replace j28 := j28.below b76
          replace j29 := j29.below b76
          replace j35 := j35.below b76
          replace j36 := j36.below b76
          replace j41 := j41.below b76
          replace j42 := j42.below b76
          replace k3 := k3.below b76
          replace hB := below_then hB b76
          replace hL := LL.below hL b76
          refine WL.val (dx_move rfl rfl) rfl rfl ?_
          refine WL.val (dx_extract rfl rfl rfl) rfl rfl ?_
          refine WL.val (dx_extract rfl rfl rfl) rfl rfl ?_
          refine WL.val (dx_assign rfl rfl) rfl rfl ?_
          refine WL.val (dx_assign rfl rfl) rfl rfl ?_
          refine WL.nil ?_
          refine hK75 ?_
          refine WC.seq fun K78 hK78 => ?_
          refine WC.drawM 23 [(some 77, .is (.string ((whoU xs a1).1))), (some 78, .is (.string ((whoU xs a1).1))), (some 79, .is (.bool false)), (some 80, .is (.bool false)), (some 81, .is (.int .i64 ((whoU xs a1).2))), (some 82, .is (.int .i64 ((whoU xs a1).2))), (some 83, .is (.bool false)), (some 84, .is (.bool false)), (some 85, .is (.bool false)), (some 86, .is (sv)), (some 87, .is (.pointer (some ⟨w.heap.size, 1, none⟩))), (some 88, .is (.string a1)), (some 89, .is (.string doc)), (some 90, .by fun u W => RdF 1 (w.heap.size :: L) W u ([doc].map encT)), (some 91, .is (.int .i64 (agdU xs a1 [doc]))), (some 92, .is (u40)), (some 93, .is (.pointer (some ⟨w.heap.size, 1, none⟩))), (some 94, .is (.string a1)), (some 95, .is (.string doc)), (some 96, .by fun u W => RdF 1 (w.heap.size :: L) W u ([doc].map encT)), (some 97, .is (.int .i64 (agdU xs a1 [doc]))), (some 98, .is (.bool false)), (some 99, .is (.bool false))] [[], [], [0, 1], [2], [3], [3], [4, 5, 3], [3, 6], [7, 3], [8], [8], [10, 8], [8], [12, 8], [9, 11, 13, 8, 8], [8], [8], [16, 8], [8], [18, 8], [15, 17, 19, 14, 8], [14, 20, 8], [8, 21]] (by kernel_rfl) (by kernel_rfl) (by kernel_rfl) (by kernel_rfl) (by kernel_rfl) (by kernel_rfl) (by kernel_rfl) ⟨fun _ _ _ hb h => h.below hb, fun _ _ _ hb h => h.below hb, trivial⟩ ?_ ?_
          ·
            refine DSteps.cons (fun Wd hd => ?_) ?_
            ·
              exact DV.dr (dx_move rfl rfl) ⟨Below.refl _ _, rfl⟩
            refine DSteps.cons (fun Wd hd => ?_) ?_
            ·
              exact DV.dr (dx_move rfl rfl) ⟨Below.refl _ _, rfl⟩
            refine DSteps.cons (fun Wd hd => ?_) ?_
            ·
              exact DV.dr (dv_F (dx_neqT rfl rfl rfl) rfl) ⟨Below.refl _ _, rfl⟩
            refine DSteps.cons (fun Wd hd => ?_) ?_
            ·
              exact DV.dr (dx_move rfl rfl) ⟨Below.refl _ _, rfl⟩
            refine DSteps.cons (fun Wd hd => ?_) ?_
            ·
              exact DV.dr (dx_move rfl rfl) ⟨Below.refl _ _, rfl⟩
            refine DSteps.cons (fun Wd hd => ?_) ?_
            ·
              exact DV.dr (dx_move rfl rfl) ⟨Below.refl _ _, rfl⟩
            refine DSteps.cons (fun Wd hd => ?_) ?_
            ·
              exact DV.dr (dv_F (dx_neq rfl rfl rfl) rfl) ⟨Below.refl _ _, rfl⟩
            refine DSteps.cons (fun Wd hd => ?_) ?_
            ·
              exact DV.dr (dx_pick rfl rfl rfl) ⟨Below.refl _ _, rfl⟩
            refine DSteps.cons (fun Wd hd => ?_) ?_
            ·
              exact DV.dr (dx_move rfl rfl) ⟨Below.refl _ _, rfl⟩
            refine DSteps.cons (fun Wd hd => ?_) ?_
            ·
              exact DV.dr (dx_move rfl rfl) ⟨Below.refl _ _, rfl⟩
            refine DSteps.cons (fun Wd hd => ?_) ?_
            ·
              exact DV.dr (dx_idxA (o1 := 1) rfl Tryd.underlying23 ty_size_9_1 rfl rfl (by omega) rfl) ⟨Below.refl _ _, rfl⟩
            refine DSteps.cons (fun Wd hd => ?_) ?_
            ·
              have k3 := k3.below hd
              exact DV.dr (dx_load rfl ty_one_9 rfl (k3.cell (k := 1) rfl)) ⟨Below.refl _ _, rfl⟩
            refine DSteps.cons (fun Wd hd => ?_) ?_
            ·
              exact DV.dr (dx_move rfl rfl) ⟨Below.refl _ _, rfl⟩
            refine DSteps.cons (fun Wd hd => ?_) ?_
            ·
              exact (dx_lit1 (r := [.string doc]) rfl ty_ap_55 (by decide) (by decide) rfl rfl rfl).mono (fun v W' h => ⟨h.2.1, h.1.notin (LL.below hL hd) (Nat.le_refl _)⟩)
            refine DSteps.cons (fun Wd hd => ?_) ?_
            ·
              intro u14_13 p14_13
              have h1 := h1.below hd
              have h2 := h2.below hd
              have hM := hM.below hd
              exact DR.mono (dx_cv rfl Tryd.func13 rfl rfl rfl (agreed_v xs a1 [doc] _ _ Wd _ (LL.below hL hd) h1 h2 hM p14_13)) (fun v W' ⟨h, hb⟩ => ⟨hb, (by rw [h]; exact rfl)⟩)
            refine DSteps.cons (fun Wd hd => ?_) ?_
            ·
              exact DV.dr (dx_move rfl rfl) ⟨Below.refl _ _, rfl⟩
            refine DSteps.cons (fun Wd hd => ?_) ?_
            ·
              exact DV.dr (dx_idxA (o1 := 1) rfl Tryd.underlying23 ty_size_9_1 rfl rfl (by omega) rfl) ⟨Below.refl _ _, rfl⟩
            refine DSteps.cons (fun Wd hd => ?_) ?_
            ·
              have k3 := k3.below hd
              exact DV.dr (dx_load rfl ty_one_9 rfl (k3.cell (k := 1) rfl)) ⟨Below.refl _ _, rfl⟩
            refine DSteps.cons (fun Wd hd => ?_) ?_
            ·
              exact DV.dr (dx_move rfl rfl) ⟨Below.refl _ _, rfl⟩
            refine DSteps.cons (fun Wd hd => ?_) ?_
            ·
              exact (dx_lit1 (r := [.string doc]) rfl ty_ap_55 (by decide) (by decide) rfl rfl rfl).mono (fun v W' h => ⟨h.2.1, h.1.notin (LL.below hL hd) (Nat.le_refl _)⟩)
            refine DSteps.cons (fun Wd hd => ?_) ?_
            ·
              intro u14_19 p14_19
              have hM := hM.below hd
              have j41 := j41.below hd
              have j42 := j42.below hd
              exact DR.mono (dx_cv rfl Tryd.func13 rfl rfl rfl (agd_as (xs := xs) (ts := [doc]) reg_right (reg_view hne) (LL.below hL hd) j41 j42 hM p14_19)) (fun v W' ⟨h, hb⟩ => ⟨hb, (by rw [h]; exact rfl)⟩)
            refine DSteps.cons (fun Wd hd => ?_) ?_
            ·
              exact DV.dr (dv_F (dx_neq rfl rfl rfl) rfl) ⟨Below.refl _ _, rfl⟩
            refine DSteps.cons (fun Wd hd => ?_) ?_
            ·
              exact DV.dr (dx_pick rfl rfl rfl) ⟨Below.refl _ _, rfl⟩
            exact trivial
          ·
            intro W79 b80
            intro u14_13 p14_13
            intro u14_19 p14_19
            replace h1 := h1.below b80
            replace h2 := h2.below b80
            replace hM := hM.below b80
            replace h26 := h26.below b80
            replace j28 := j28.below b80
            replace j29 := j29.below b80
            replace j35 := j35.below b80
            replace j36 := j36.below b80
            replace j41 := j41.below b80
            replace j42 := j42.below b80
            replace k3 := k3.below b80
            replace hB := below_then hB b80
            replace hL := LL.below hL b80
            refine WL.nil ?_
            refine hK78 ?_
            refine WC.condF rfl ?_
            refine WC.skip ?_
            refine hK52 ?_
            refine WC.region ?_
            refine WL.val (dx_move rfl rfl) rfl rfl ?_
            refine WL.val (dx_add (r := ((2 : Nat) : Int) + 1) rfl rfl rfl (wrap64_id (by omega))) rfl rfl ?_
            refine WL.val (dx_assign rfl rfl) rfl rfl ?_
            refine WL.nil ?_
            exact hK47 (2 + 1) ⟨(by omega), hB, hL, h1, h2, hM, h26, j28, j29, j35, j36, j41, j42, k3⟩ (by omega) (by repeat first | exact trivial | exact And.intro rfl trivial | refine And.intro rfl ?_ | refine And.intro (congrArg (fun z : Int => some (Value.int .i64 z)) (by omega)) ?_)
      ·
        replace c51 := of_decide_eq_false c51
        refine WC.exit ?_
        refine hK45 ?_
        refine WC.seq fun K81 hK81 => ?_
        refine WC.region ?_
        refine WL.val (dx_assign rfl rfl) rfl rfl ?_
        refine WL.nil ?_
        refine hK81 ?_
        refine WC.ret fun a_ ha_ => ?_
        exact hQ (cv_ret1 rfl (.tmp rfl) rfl hB ha_)

end Go.Proofs.YthefddclefimoaaDoor

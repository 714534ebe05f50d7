/- Package session. Package session: Request. Sessions: what the reference's loops find. No program stands here. Slices of structures as arguments, with what their data weighs. No program stands here. Sessions, as arguments. Sessions that are the same; the fixed fact of layer 16. Layer 5 (ids): the reference's answers are the same. -/
import Derived.Test.YthllidchoodofaaGreatDoorTie
import Derived.Test.YthllidchoodofaaGreatDoorCards
import Derived.Deep.Strs
import Derived.ChangeSame
import Derived.Deep.DeepHandedRow
import Derived.Lay
import Derived.LaidLaws
import Derived.SevenTiedAt
import Derived.Test.YthllidchoodofaaGreatDoorKC
namespace Go.Proofs.YthllidchoodofaaGreatDoor
open Go.RowKit
set_option linter.unusedVariables false
set_option linter.unusedSimpArgs false
set_option maxRecDepth 8000

abbrev smallZ (xs : List SesX) : Prop := ∀ b ∈ xs, b.whr.size ≤ 140737488355328
set_option maxHeartbeats 1000000 in
theorem same_v (a b : SesX) (w : World) (L : List Nat) (hL : LL L w)  : CV Tryz.prog 31 [.agg #[.int .i64 a.id, .string a.sec, .string a.med, .string a.whr, .string a.tok, .int .i64 a.att, .int .i64 a.since, .int .i64 a.wrong, .bool a.shown, .int .i64 a.sat], .agg #[.int .i64 b.id, .string b.sec, .string b.med, .string b.whr, .string b.tok, .int .i64 b.att, .int .i64 b.since, .int .i64 b.wrong, .bool b.shown, .int .i64 b.sat]] w fun v W => v = .bool (sameZ a b) := by
  refine cv_enter (N := 17) (f := [(0, .agg #[.int .i64 a.id, .string a.sec, .string a.med, .string a.whr, .string a.tok, .int .i64 a.att, .int .i64 a.since, .int .i64 a.wrong, .bool a.shown, .int .i64 a.sat]), (1, .agg #[.int .i64 b.id, .string b.sec, .string b.med, .string b.whr, .string b.tok, .int .i64 b.att, .int .i64 b.since, .int .i64 b.wrong, .bool b.shown, .int .i64 b.sat])]) Tryz.func31 rfl rfl rfl rfl fun Q hQ hE => ?_
  have hB := Below.refl w.heap.size w
  refine WC.seq fun K1 hK1 => ?_
  refine WC.region ?_
  refine WL.get (dx_box rfl rfl rfl) rfl rfl ?_
  rintro _ W2 ⟨rfl, k3, b4, z5⟩
  have l6 := hB.size
  replace hB := below_then hB b4
  replace hL := LL.more hL z5
  refine WL.get (dx_box rfl rfl rfl) rfl rfl ?_
  rintro _ W7 ⟨rfl, k8, b9, z10⟩
  have n11 : w.heap.size ≠ W2.heap.size := Nat.ne_of_lt k3.lt
  have l12 := hB.size
  replace k3 := k3.below b9
  replace hB := below_then hB b9
  replace hL := LL.more hL z10
  refine WL.val (dx_assign rfl rfl) rfl rfl ?_
  refine WL.nil ?_
  refine hK1 ?_
  refine WC.seq fun K13 hK13 => ?_
  refine WC.region ?_
  refine WL.val (dx_fld (o1 := 1) rfl ty_fld_26_1_1 rfl rfl) rfl rfl ?_
  refine WL.val (dx_load rfl ty_one_9 rfl (k3.cell (k := 1) rfl)) rfl rfl ?_
  refine WL.val (dx_fld (o1 := 1) rfl ty_fld_26_1_1 rfl rfl) rfl rfl ?_
  refine WL.val (dx_load rfl ty_one_9 rfl (k8.cell (k := 1) rfl)) rfl rfl ?_
  refine WL.val (dx_eqlT rfl rfl rfl) rfl rfl ?_
  refine WL.val (dx_move rfl rfl) rfl rfl ?_
  refine WL.split 10 rfl (fun g14 => ?_) (fun g14 => ?_)
  ·
    replace g14 := of_decide_eq_true g14
    refine WL.val (dx_fld (o1 := 2) rfl ty_fld_26_2_2 rfl rfl) rfl rfl ?_
    refine WL.val (dx_loadN (cs := [.string a.med, .string a.whr]) rfl ty_agg_24_2 rfl (k3.part 2 2) rfl) rfl rfl ?_
    refine WL.val (dx_fld (o1 := 2) rfl ty_fld_26_2_2 rfl rfl) rfl rfl ?_
    refine WL.val (dx_loadN (cs := [.string b.med, .string b.whr]) rfl ty_agg_24_2 rfl (k8.part 2 2) rfl) rfl rfl ?_
    refine WL.val (dx_eqAd rfl rfl rfl) rfl rfl ?_
    refine WL.val (dx_pick rfl rfl rfl) rfl rfl ?_
    refine WL.val (dx_assign rfl rfl) rfl rfl ?_
    refine WL.nil ?_
    refine hK13 ?_
    refine WC.ret fun a_ ha_ => ?_
    exact hQ (cv_ret1 rfl (.tmp rfl) (by simp [sameZ, *]) hB ha_)
  ·
    replace g14 := of_decide_eq_false g14
    refine WL.off rfl rfl rfl ?_
    refine WL.off rfl rfl rfl ?_
    refine WL.off rfl rfl rfl ?_
    refine WL.off rfl rfl rfl ?_
    refine WL.off rfl rfl rfl ?_
    refine WL.val (dx_pick rfl rfl rfl) rfl rfl ?_
    refine WL.val (dx_assign rfl rfl) rfl rfl ?_
    refine WL.nil ?_
    refine hK13 ?_
    refine WC.ret fun a_ ha_ => ?_
    exact hQ (cv_ret1 rfl (.tmp rfl) (by simp [sameZ, *]) hB ha_)

set_option maxHeartbeats 1000000 in
theorem goodZ_v (p : SesX) (w : World) (L : List Nat) (hL : LL L w) (hM : MaxL L w)  (hs : p.whr.size ≤ 140737488355328) : CV Tryz.prog 29 [.agg #[.int .i64 p.id, .string p.sec, .string p.med, .string p.whr, .string p.tok, .int .i64 p.att, .int .i64 p.since, .int .i64 p.wrong, .bool p.shown, .int .i64 p.sat]] w fun v W => v = .bool (goodZ p) := by
  refine cv_enter (N := 60) (f := [(0, .agg #[.int .i64 p.id, .string p.sec, .string p.med, .string p.whr, .string p.tok, .int .i64 p.att, .int .i64 p.since, .int .i64 p.wrong, .bool p.shown, .int .i64 p.sat])]) Tryz.func29 rfl rfl rfl rfl fun Q hQ hE => ?_
  have hB := Below.refl w.heap.size w
  refine WC.seq fun K1 hK1 => ?_
  refine WC.region ?_
  refine WL.get (dx_box rfl rfl rfl) rfl rfl ?_
  rintro _ W2 ⟨rfl, k3, b4, z5⟩
  have l6 := hB.size
  replace hM := hM.more b4 (Nat.le_refl _)
  replace hB := below_then hB b4
  replace hL := LL.more hL z5
  refine WL.val (dx_assign rfl rfl) rfl rfl ?_
  refine WL.nil ?_
  refine hK1 ?_
  refine WC.seq fun K7 hK7 => ?_
  refine WC.region ?_
  refine WL.val (dx_fld (o1 := 0) rfl ty_fld_26_0_0 rfl rfl) rfl rfl ?_
  refine WL.val (dx_load rfl ty_one_3 rfl (k3.cell (k := 0) rfl)) rfl rfl ?_
  refine WL.get (dx_cv rfl Tryz.func25 rfl rfl rfl (number_v p.id 1 W2 [] (LL.nil _))) rfl rfl ?_
  rintro _ W9 ⟨rfl, b8⟩
  replace hM := hM.below b8
  replace k3 := k3.below b8
  replace hB := below_then hB b8
  replace hL := LL.below hL b8
  refine WL.val (dx_move rfl rfl) rfl rfl ?_
  refine WL.split 6 rfl (fun g10 => ?_) (fun g10 => ?_)
  ·
    refine WL.val (dx_fld (o1 := 1) rfl ty_fld_26_1_1 rfl rfl) rfl rfl ?_
    refine WL.val (dx_load rfl ty_one_9 rfl (k3.cell (k := 1) rfl)) rfl rfl ?_
    refine WL.get (dx_cv rfl Tryz.func39 rfl rfl rfl (word_v p.sec W9 [] (LL.nil _))) rfl rfl ?_
    rintro _ W12 ⟨rfl, b11⟩
    replace hM := hM.below b11
    replace k3 := k3.below b11
    replace hB := below_then hB b11
    replace hL := LL.below hL b11
    refine WL.val (dx_pick rfl rfl rfl) rfl rfl ?_
    refine WL.val (dx_move rfl rfl) rfl rfl ?_
    refine WL.split 11 rfl (fun g13 => ?_) (fun g13 => ?_)
    ·
      refine WL.val (dx_fld (o1 := 4) rfl ty_fld_26_3_4 rfl rfl) rfl rfl ?_
      refine WL.val (dx_load rfl ty_one_9 rfl (k3.cell (k := 4) rfl)) rfl rfl ?_
      refine WL.get (dx_cv rfl Tryz.func39 rfl rfl rfl (word_v p.tok W12 [] (LL.nil _))) rfl rfl ?_
      rintro _ W15 ⟨rfl, b14⟩
      replace hM := hM.below b14
      replace k3 := k3.below b14
      replace hB := below_then hB b14
      replace hL := LL.below hL b14
      refine WL.val (dx_pick rfl rfl rfl) rfl rfl ?_
      refine WL.val (dx_move rfl rfl) rfl rfl ?_
      refine WL.split 16 rfl (fun g16 => ?_) (fun g16 => ?_)
      ·
        refine WL.val (dx_fld (o1 := 2) rfl ty_fld_26_2_2 rfl rfl) rfl rfl ?_
        refine WL.val (dx_loadN (cs := [.string p.med, .string p.whr]) rfl ty_agg_24_2 rfl (k3.part 2 2) rfl) rfl rfl ?_
        refine WL.get (dx_cv rfl Tryz.func40 rfl rfl rfl (right_v p.med p.whr W15 _ hL hM hs)) rfl rfl ?_
        rintro _ W18 ⟨rfl, b17⟩
        replace hM := hM.below b17
        replace k3 := k3.below b17
        replace hB := below_then hB b17
        replace hL := LL.below hL b17
        refine WL.val (dx_pick rfl rfl rfl) rfl rfl ?_
        refine WL.val (dx_move rfl rfl) rfl rfl ?_
        refine WL.split 21 rfl (fun g19 => ?_) (fun g19 => ?_)
        ·
          refine WL.val (dx_fld (o1 := 5) rfl ty_fld_26_4_5 rfl rfl) rfl rfl ?_
          refine WL.val (dx_load rfl ty_one_3 rfl (k3.cell (k := 5) rfl)) rfl rfl ?_
          refine WL.val (dx_geq rfl rfl rfl) rfl rfl ?_
          refine WL.val (dx_pick rfl rfl rfl) rfl rfl ?_
          refine WL.val (dx_move rfl rfl) rfl rfl ?_
          refine WL.split 26 rfl (fun g20 => ?_) (fun g20 => ?_)
          ·
            replace g20 := of_decide_eq_true g20
            refine WL.val (dx_fld (o1 := 5) rfl ty_fld_26_4_5 rfl rfl) rfl rfl ?_
            refine WL.val (dx_load rfl ty_one_3 rfl (k3.cell (k := 5) rfl)) rfl rfl ?_
            refine WL.val (dx_leq rfl rfl rfl) rfl rfl ?_
            refine WL.val (dx_pick rfl rfl rfl) rfl rfl ?_
            refine WL.val (dx_move rfl rfl) rfl rfl ?_
            refine WL.split 31 rfl (fun g21 => ?_) (fun g21 => ?_)
            ·
              replace g21 := of_decide_eq_true g21
              refine WL.val (dx_fld (o1 := 6) rfl ty_fld_26_5_6 rfl rfl) rfl rfl ?_
              refine WL.val (dx_load rfl ty_one_3 rfl (k3.cell (k := 6) rfl)) rfl rfl ?_
              refine WL.get (dx_cv rfl Tryz.func25 rfl rfl rfl (number_v p.since 0 W18 [] (LL.nil _))) rfl rfl ?_
              rintro _ W23 ⟨rfl, b22⟩
              replace hM := hM.below b22
              replace k3 := k3.below b22
              replace hB := below_then hB b22
              replace hL := LL.below hL b22
              refine WL.val (dx_pick rfl rfl rfl) rfl rfl ?_
              refine WL.val (dx_move rfl rfl) rfl rfl ?_
              refine WL.split 36 rfl (fun g24 => ?_) (fun g24 => ?_)
              ·
                refine WL.val (dx_fld (o1 := 9) rfl ty_fld_26_8_9 rfl rfl) rfl rfl ?_
                refine WL.val (dx_load rfl ty_one_3 rfl (k3.cell (k := 9) rfl)) rfl rfl ?_
                refine WL.get (dx_cv rfl Tryz.func25 rfl rfl rfl (number_v p.sat 0 W23 [] (LL.nil _))) rfl rfl ?_
                rintro _ W26 ⟨rfl, b25⟩
                replace hM := hM.below b25
                replace k3 := k3.below b25
                replace hB := below_then hB b25
                replace hL := LL.below hL b25
                refine WL.val (dx_pick rfl rfl rfl) rfl rfl ?_
                refine WL.val (dx_move rfl rfl) rfl rfl ?_
                refine WL.split 41 rfl (fun g27 => ?_) (fun g27 => ?_)
                ·
                  refine WL.val (dx_fld (o1 := 7) rfl ty_fld_26_6_7 rfl rfl) rfl rfl ?_
                  refine WL.val (dx_load rfl ty_one_3 rfl (k3.cell (k := 7) rfl)) rfl rfl ?_
                  refine WL.val (dx_geq rfl rfl rfl) rfl rfl ?_
                  refine WL.val (dx_pick rfl rfl rfl) rfl rfl ?_
                  refine WL.val (dx_move rfl rfl) rfl rfl ?_
                  refine WL.split 46 rfl (fun g28 => ?_) (fun g28 => ?_)
                  ·
                    replace g28 := of_decide_eq_true g28
                    refine WL.val (dx_fld (o1 := 7) rfl ty_fld_26_6_7 rfl rfl) rfl rfl ?_
                    refine WL.val (dx_load rfl ty_one_3 rfl (k3.cell (k := 7) rfl)) rfl rfl ?_
                    refine WL.val (dx_leq rfl rfl rfl) rfl rfl ?_
                    refine WL.val (dx_pick rfl rfl rfl) rfl rfl ?_
                    refine WL.val (dx_move rfl rfl) rfl rfl ?_
                    refine WL.split 51 rfl (fun g29 => ?_) (fun g29 => ?_)
                    ·
                      replace g29 := of_decide_eq_true g29
                      refine WL.val (dx_fld (o1 := 8) rfl ty_fld_26_7_8 rfl rfl) rfl rfl ?_
                      refine WL.val (dx_load rfl ty_one_4 rfl (k3.cell (k := 8) rfl)) rfl rfl ?_
                      refine WL.val (dx_move rfl rfl) rfl rfl ?_
                      refine WL.split 54 rfl (fun g30 => ?_) (fun g30 => ?_)
                      ·
                        refine WL.off rfl rfl rfl ?_
                        refine WL.off rfl rfl rfl ?_
                        refine WL.off rfl rfl rfl ?_
                        refine WL.val (dx_pick rfl rfl rfl) rfl rfl ?_
                        refine WL.val (dx_pick rfl rfl rfl) rfl rfl ?_
                        refine WL.val (dx_assign rfl rfl) rfl rfl ?_
                        refine WL.nil ?_
                        refine hK7 ?_
                        refine WC.ret fun a_ ha_ => ?_
                        exact hQ (cv_ret1 rfl (.tmp rfl) (by simp [goodZ, *]) hB ha_)
                      ·
                        refine WL.val (dx_fld (o1 := 9) rfl ty_fld_26_8_9 rfl rfl) rfl rfl ?_
                        refine WL.val (dx_load rfl ty_one_3 rfl (k3.cell (k := 9) rfl)) rfl rfl ?_
                        refine WL.val (dx_eql rfl rfl rfl) rfl rfl ?_
                        refine WL.val (dx_pick rfl rfl rfl) rfl rfl ?_
                        refine WL.val (dx_pick rfl rfl rfl) rfl rfl ?_
                        refine WL.val (dx_assign rfl rfl) rfl rfl ?_
                        refine WL.nil ?_
                        refine hK7 ?_
                        refine WC.ret fun a_ ha_ => ?_
                        exact hQ (cv_ret1 rfl (.tmp rfl) (by simp [goodZ, *]) hB ha_)
                    ·
                      replace g29 := of_decide_eq_false g29
                      refine WL.off rfl rfl rfl ?_
                      refine WL.off rfl rfl rfl ?_
                      refine WL.off rfl rfl rfl ?_
                      refine WL.off rfl rfl rfl ?_
                      refine WL.off rfl rfl rfl ?_
                      refine WL.off rfl rfl rfl ?_
                      refine WL.off rfl rfl rfl ?_
                      refine WL.val (dx_pick rfl rfl rfl) rfl rfl ?_
                      refine WL.val (dx_assign rfl rfl) rfl rfl ?_
                      refine WL.nil ?_
                      refine hK7 ?_
                      refine WC.ret fun a_ ha_ => ?_
                      exact hQ (cv_ret1 rfl (.tmp rfl) (by simp [goodZ, *]) hB ha_)
                  ·
                    replace g28 := of_decide_eq_false g28
                    refine WL.off rfl rfl rfl ?_
                    refine WL.off rfl rfl rfl ?_
                    refine WL.off rfl rfl rfl ?_
                    refine WL.val (dx_pick rfl rfl rfl) rfl rfl ?_
                    refine WL.val (dx_move rfl rfl) rfl rfl ?_
                    refine WL.off rfl rfl rfl ?_
                    refine WL.off rfl rfl rfl ?_
                    refine WL.off rfl rfl rfl ?_
                    refine WL.off rfl rfl rfl ?_
                    refine WL.off rfl rfl rfl ?_
                    refine WL.off rfl rfl rfl ?_
                    refine WL.off rfl rfl rfl ?_
                    refine WL.val (dx_pick rfl rfl rfl) rfl rfl ?_
                    refine WL.val (dx_assign rfl rfl) rfl rfl ?_
                    refine WL.nil ?_
                    refine hK7 ?_
                    refine WC.ret fun a_ ha_ => ?_
                    exact hQ (cv_ret1 rfl (.tmp rfl) (by simp [goodZ, *]) hB ha_)
                ·
                  refine WL.off rfl rfl rfl ?_
                  refine WL.off rfl rfl rfl ?_
                  refine WL.off rfl rfl rfl ?_
                  refine WL.val (dx_pick rfl rfl rfl) rfl rfl ?_
                  refine WL.val (dx_move rfl rfl) rfl rfl ?_
                  refine WL.off rfl rfl rfl ?_
                  refine WL.off rfl rfl rfl ?_
                  refine WL.off rfl rfl rfl ?_
                  refine WL.val (dx_pick rfl rfl rfl) rfl rfl ?_
                  refine WL.val (dx_move rfl rfl) rfl rfl ?_
                  refine WL.off rfl rfl rfl ?_
                  refine WL.off rfl rfl rfl ?_
                  refine WL.off rfl rfl rfl ?_
                  refine WL.off rfl rfl rfl ?_
                  refine WL.off rfl rfl rfl ?_
                  refine WL.off rfl rfl rfl ?_
                  refine WL.off rfl rfl rfl ?_
                  refine WL.val (dx_pick rfl rfl rfl) rfl rfl ?_
                  refine WL.val (dx_assign rfl rfl) rfl rfl ?_
                  refine WL.nil ?_
                  refine hK7 ?_
                  refine WC.ret fun a_ ha_ => ?_
                  exact hQ (cv_ret1 rfl (.tmp rfl) (by simp [goodZ, *]) hB ha_)
              ·
                refine WL.off rfl rfl rfl ?_
                refine WL.off rfl rfl rfl ?_
                refine WL.off rfl rfl rfl ?_
                refine WL.val (dx_pick rfl rfl rfl) rfl rfl ?_
                refine WL.val (dx_move rfl rfl) rfl rfl ?_
                refine WL.off rfl rfl rfl ?_
                refine WL.off rfl rfl rfl ?_
                refine WL.off rfl rfl rfl ?_
                refine WL.val (dx_pick rfl rfl rfl) rfl rfl ?_
                refine WL.val (dx_move rfl rfl) rfl rfl ?_
                refine WL.off rfl rfl rfl ?_
                refine WL.off rfl rfl rfl ?_
                refine WL.off rfl rfl rfl ?_
                refine WL.val (dx_pick rfl rfl rfl) rfl rfl ?_
                refine WL.val (dx_move rfl rfl) rfl rfl ?_
                refine WL.off rfl rfl rfl ?_
                refine WL.off rfl rfl rfl ?_
                refine WL.off rfl rfl rfl ?_
                refine WL.off rfl rfl rfl ?_
                refine WL.off rfl rfl rfl ?_
                refine WL.off rfl rfl rfl ?_
                refine WL.off rfl rfl rfl ?_
                refine WL.val (dx_pick rfl rfl rfl) rfl rfl ?_
                refine WL.val (dx_assign rfl rfl) rfl rfl ?_
                refine WL.nil ?_
                refine hK7 ?_
                refine WC.ret fun a_ ha_ => ?_
                exact hQ (cv_ret1 rfl (.tmp rfl) (by simp [goodZ, *]) hB ha_)
            ·
              replace g21 := of_decide_eq_false g21
              refine WL.off rfl rfl rfl ?_
              refine WL.off rfl rfl rfl ?_
              refine WL.off rfl rfl rfl ?_
              refine WL.val (dx_pick rfl rfl rfl) rfl rfl ?_
              refine WL.val (dx_move rfl rfl) rfl rfl ?_
              refine WL.off rfl rfl rfl ?_
              refine WL.off rfl rfl rfl ?_
              refine WL.off rfl rfl rfl ?_
              refine WL.val (dx_pick rfl rfl rfl) rfl rfl ?_
              refine WL.val (dx_move rfl rfl) rfl rfl ?_
              refine WL.off rfl rfl rfl ?_
              refine WL.off rfl rfl rfl ?_
              refine WL.off rfl rfl rfl ?_
              refine WL.val (dx_pick rfl rfl rfl) rfl rfl ?_
              refine WL.val (dx_move rfl rfl) rfl rfl ?_
              refine WL.off rfl rfl rfl ?_
              refine WL.off rfl rfl rfl ?_
              refine WL.off rfl rfl rfl ?_
              refine WL.val (dx_pick rfl rfl rfl) rfl rfl ?_
              refine WL.val (dx_move rfl rfl) rfl rfl ?_
              refine WL.off rfl rfl rfl ?_
              refine WL.off rfl rfl rfl ?_
              refine WL.off rfl rfl rfl ?_
              refine WL.off rfl rfl rfl ?_
              refine WL.off rfl rfl rfl ?_
              refine WL.off rfl rfl rfl ?_
              refine WL.off rfl rfl rfl ?_
              refine WL.val (dx_pick rfl rfl rfl) rfl rfl ?_
              refine WL.val (dx_assign rfl rfl) rfl rfl ?_
              refine WL.nil ?_
              refine hK7 ?_
              refine WC.ret fun a_ ha_ => ?_
              exact hQ (cv_ret1 rfl (.tmp rfl) (by simp [goodZ, *]) hB ha_)
          ·
            replace g20 := of_decide_eq_false g20
            refine WL.off rfl rfl rfl ?_
            refine WL.off rfl rfl rfl ?_
            refine WL.off rfl rfl rfl ?_
            refine WL.val (dx_pick rfl rfl rfl) rfl rfl ?_
            refine WL.val (dx_move rfl rfl) rfl rfl ?_
            refine WL.off rfl rfl rfl ?_
            refine WL.off rfl rfl rfl ?_
            refine WL.off rfl rfl rfl ?_
            refine WL.val (dx_pick rfl rfl rfl) rfl rfl ?_
            refine WL.val (dx_move rfl rfl) rfl rfl ?_
            refine WL.off rfl rfl rfl ?_
            refine WL.off rfl rfl rfl ?_
            refine WL.off rfl rfl rfl ?_
            refine WL.val (dx_pick rfl rfl rfl) rfl rfl ?_
            refine WL.val (dx_move rfl rfl) rfl rfl ?_
            refine WL.off rfl rfl rfl ?_
            refine WL.off rfl rfl rfl ?_
            refine WL.off rfl rfl rfl ?_
            refine WL.val (dx_pick rfl rfl rfl) rfl rfl ?_
            refine WL.val (dx_move rfl rfl) rfl rfl ?_
            refine WL.off rfl rfl rfl ?_
            refine WL.off rfl rfl rfl ?_
            refine WL.off rfl rfl rfl ?_
            refine WL.val (dx_pick rfl rfl rfl) rfl rfl ?_
            refine WL.val (dx_move rfl rfl) rfl rfl ?_
            refine WL.off rfl rfl rfl ?_
            refine WL.off rfl rfl rfl ?_
            refine WL.off rfl rfl rfl ?_
            refine WL.off rfl rfl rfl ?_
            refine WL.off rfl rfl rfl ?_
            refine WL.off rfl rfl rfl ?_
            refine WL.off rfl rfl rfl ?_
            refine WL.val (dx_pick rfl rfl rfl) rfl rfl ?_
            refine WL.val (dx_assign rfl rfl) rfl rfl ?_
            refine WL.nil ?_
            refine hK7 ?_
            refine WC.ret fun a_ ha_ => ?_
            exact hQ (cv_ret1 rfl (.tmp rfl) (by simp [goodZ, *]) hB ha_)
        ·
          refine WL.off rfl rfl rfl ?_
          refine WL.off rfl rfl rfl ?_
          refine WL.off rfl rfl rfl ?_
          refine WL.val (dx_pick rfl rfl rfl) rfl rfl ?_
          refine WL.val (dx_move rfl rfl) rfl rfl ?_
          refine WL.off rfl rfl rfl ?_
          refine WL.off rfl rfl rfl ?_
          refine WL.off rfl rfl rfl ?_
          refine WL.val (dx_pick rfl rfl rfl) rfl rfl ?_
          refine WL.val (dx_move rfl rfl) rfl rfl ?_
          refine WL.off rfl rfl rfl ?_
          refine WL.off rfl rfl rfl ?_
          refine WL.off rfl rfl rfl ?_
          refine WL.val (dx_pick rfl rfl rfl) rfl rfl ?_
          refine WL.val (dx_move rfl rfl) rfl rfl ?_
          refine WL.off rfl rfl rfl ?_
          refine WL.off rfl rfl rfl ?_
          refine WL.off rfl rfl rfl ?_
          refine WL.val (dx_pick rfl rfl rfl) rfl rfl ?_
          refine WL.val (dx_move rfl rfl) rfl rfl ?_
          refine WL.off rfl rfl rfl ?_
          refine WL.off rfl rfl rfl ?_
          refine WL.off rfl rfl rfl ?_
          refine WL.val (dx_pick rfl rfl rfl) rfl rfl ?_
          refine WL.val (dx_move rfl rfl) rfl rfl ?_
          refine WL.off rfl rfl rfl ?_
          refine WL.off rfl rfl rfl ?_
          refine WL.off rfl rfl rfl ?_
          refine WL.val (dx_pick rfl rfl rfl) rfl rfl ?_
          refine WL.val (dx_move rfl rfl) rfl rfl ?_
          refine WL.off rfl rfl rfl ?_
          refine WL.off rfl rfl rfl ?_
          refine WL.off rfl rfl rfl ?_
          refine WL.off rfl rfl rfl ?_
          refine WL.off rfl rfl rfl ?_
          refine WL.off rfl rfl rfl ?_
          refine WL.off rfl rfl rfl ?_
          refine WL.val (dx_pick rfl rfl rfl) rfl rfl ?_
          refine WL.val (dx_assign rfl rfl) rfl rfl ?_
          refine WL.nil ?_
          refine hK7 ?_
          refine WC.ret fun a_ ha_ => ?_
          exact hQ (cv_ret1 rfl (.tmp rfl) (by simp [goodZ, *]) hB ha_)
      ·
        refine WL.off rfl rfl rfl ?_
        refine WL.off rfl rfl rfl ?_
        refine WL.off rfl rfl rfl ?_
        refine WL.val (dx_pick rfl rfl rfl) rfl rfl ?_
        refine WL.val (dx_move rfl rfl) rfl rfl ?_
        refine WL.off rfl rfl rfl ?_
        refine WL.off rfl rfl rfl ?_
        refine WL.off rfl rfl rfl ?_
        refine WL.val (dx_pick rfl rfl rfl) rfl rfl ?_
        refine WL.val (dx_move rfl rfl) rfl rfl ?_
        refine WL.off rfl rfl rfl ?_
        refine WL.off rfl rfl rfl ?_
        refine WL.off rfl rfl rfl ?_
        refine WL.val (dx_pick rfl rfl rfl) rfl rfl ?_
        refine WL.val (dx_move rfl rfl) rfl rfl ?_
        refine WL.off rfl rfl rfl ?_
        refine WL.off rfl rfl rfl ?_
        refine WL.off rfl rfl rfl ?_
        refine WL.val (dx_pick rfl rfl rfl) rfl rfl ?_
        refine WL.val (dx_move rfl rfl) rfl rfl ?_
        refine WL.off rfl rfl rfl ?_
        refine WL.off rfl rfl rfl ?_
        refine WL.off rfl rfl rfl ?_
        refine WL.val (dx_pick rfl rfl rfl) rfl rfl ?_
        refine WL.val (dx_move rfl rfl) rfl rfl ?_
        refine WL.off rfl rfl rfl ?_
        refine WL.off rfl rfl rfl ?_
        refine WL.off rfl rfl rfl ?_
        refine WL.val (dx_pick rfl rfl rfl) rfl rfl ?_
        refine WL.val (dx_move rfl rfl) rfl rfl ?_
        refine WL.off rfl rfl rfl ?_
        refine WL.off rfl rfl rfl ?_
        refine WL.off rfl rfl rfl ?_
        refine WL.val (dx_pick rfl rfl rfl) rfl rfl ?_
        refine WL.val (dx_move rfl rfl) rfl rfl ?_
        refine WL.off rfl rfl rfl ?_
        refine WL.off rfl rfl rfl ?_
        refine WL.off rfl rfl rfl ?_
        refine WL.off rfl rfl rfl ?_
        refine WL.off rfl rfl rfl ?_
        refine WL.off rfl rfl rfl ?_
        refine WL.off rfl rfl rfl ?_
        refine WL.val (dx_pick rfl rfl rfl) rfl rfl ?_
        refine WL.val (dx_assign rfl rfl) rfl rfl ?_
        refine WL.nil ?_
        refine hK7 ?_
        refine WC.ret fun a_ ha_ => ?_
        exact hQ (cv_ret1 rfl (.tmp rfl) (by simp [goodZ, *]) hB ha_)
    ·
      refine WL.off rfl rfl rfl ?_
      refine WL.off rfl rfl rfl ?_
      refine WL.off rfl rfl rfl ?_
      refine WL.val (dx_pick rfl rfl rfl) rfl rfl ?_
      refine WL.val (dx_move rfl rfl) rfl rfl ?_
      refine WL.off rfl rfl rfl ?_
      refine WL.off rfl rfl rfl ?_
      refine WL.off rfl rfl rfl ?_
      refine WL.val (dx_pick rfl rfl rfl) rfl rfl ?_
      refine WL.val (dx_move rfl rfl) rfl rfl ?_
      refine WL.off rfl rfl rfl ?_
      refine WL.off rfl rfl rfl ?_
      refine WL.off rfl rfl rfl ?_
      refine WL.val (dx_pick rfl rfl rfl) rfl rfl ?_
      refine WL.val (dx_move rfl rfl) rfl rfl ?_
      refine WL.off rfl rfl rfl ?_
      refine WL.off rfl rfl rfl ?_
      refine WL.off rfl rfl rfl ?_
      refine WL.val (dx_pick rfl rfl rfl) rfl rfl ?_
      refine WL.val (dx_move rfl rfl) rfl rfl ?_
      refine WL.off rfl rfl rfl ?_
      refine WL.off rfl rfl rfl ?_
      refine WL.off rfl rfl rfl ?_
      refine WL.val (dx_pick rfl rfl rfl) rfl rfl ?_
      refine WL.val (dx_move rfl rfl) rfl rfl ?_
      refine WL.off rfl rfl rfl ?_
      refine WL.off rfl rfl rfl ?_
      refine WL.off rfl rfl rfl ?_
      refine WL.val (dx_pick rfl rfl rfl) rfl rfl ?_
      refine WL.val (dx_move rfl rfl) rfl rfl ?_
      refine WL.off rfl rfl rfl ?_
      refine WL.off rfl rfl rfl ?_
      refine WL.off rfl rfl rfl ?_
      refine WL.val (dx_pick rfl rfl rfl) rfl rfl ?_
      refine WL.val (dx_move rfl rfl) rfl rfl ?_
      refine WL.off rfl rfl rfl ?_
      refine WL.off rfl rfl rfl ?_
      refine WL.off rfl rfl rfl ?_
      refine WL.val (dx_pick rfl rfl rfl) rfl rfl ?_
      refine WL.val (dx_move rfl rfl) rfl rfl ?_
      refine WL.off rfl rfl rfl ?_
      refine WL.off rfl rfl rfl ?_
      refine WL.off rfl rfl rfl ?_
      refine WL.off rfl rfl rfl ?_
      refine WL.off rfl rfl rfl ?_
      refine WL.off rfl rfl rfl ?_
      refine WL.off rfl rfl rfl ?_
      refine WL.val (dx_pick rfl rfl rfl) rfl rfl ?_
      refine WL.val (dx_assign rfl rfl) rfl rfl ?_
      refine WL.nil ?_
      refine hK7 ?_
      refine WC.ret fun a_ ha_ => ?_
      exact hQ (cv_ret1 rfl (.tmp rfl) (by simp [goodZ, *]) hB ha_)
  ·
    refine WL.off rfl rfl rfl ?_
    refine WL.off rfl rfl rfl ?_
    refine WL.off rfl rfl rfl ?_
    refine WL.val (dx_pick rfl rfl rfl) rfl rfl ?_
    refine WL.val (dx_move rfl rfl) rfl rfl ?_
    refine WL.off rfl rfl rfl ?_
    refine WL.off rfl rfl rfl ?_
    refine WL.off rfl rfl rfl ?_
    refine WL.val (dx_pick rfl rfl rfl) rfl rfl ?_
    refine WL.val (dx_move rfl rfl) rfl rfl ?_
    refine WL.off rfl rfl rfl ?_
    refine WL.off rfl rfl rfl ?_
    refine WL.off rfl rfl rfl ?_
    refine WL.val (dx_pick rfl rfl rfl) rfl rfl ?_
    refine WL.val (dx_move rfl rfl) rfl rfl ?_
    refine WL.off rfl rfl rfl ?_
    refine WL.off rfl rfl rfl ?_
    refine WL.off rfl rfl rfl ?_
    refine WL.val (dx_pick rfl rfl rfl) rfl rfl ?_
    refine WL.val (dx_move rfl rfl) rfl rfl ?_
    refine WL.off rfl rfl rfl ?_
    refine WL.off rfl rfl rfl ?_
    refine WL.off rfl rfl rfl ?_
    refine WL.val (dx_pick rfl rfl rfl) rfl rfl ?_
    refine WL.val (dx_move rfl rfl) rfl rfl ?_
    refine WL.off rfl rfl rfl ?_
    refine WL.off rfl rfl rfl ?_
    refine WL.off rfl rfl rfl ?_
    refine WL.val (dx_pick rfl rfl rfl) rfl rfl ?_
    refine WL.val (dx_move rfl rfl) rfl rfl ?_
    refine WL.off rfl rfl rfl ?_
    refine WL.off rfl rfl rfl ?_
    refine WL.off rfl rfl rfl ?_
    refine WL.val (dx_pick rfl rfl rfl) rfl rfl ?_
    refine WL.val (dx_move rfl rfl) rfl rfl ?_
    refine WL.off rfl rfl rfl ?_
    refine WL.off rfl rfl rfl ?_
    refine WL.off rfl rfl rfl ?_
    refine WL.val (dx_pick rfl rfl rfl) rfl rfl ?_
    refine WL.val (dx_move rfl rfl) rfl rfl ?_
    refine WL.off rfl rfl rfl ?_
    refine WL.off rfl rfl rfl ?_
    refine WL.off rfl rfl rfl ?_
    refine WL.val (dx_pick rfl rfl rfl) rfl rfl ?_
    refine WL.val (dx_move rfl rfl) rfl rfl ?_
    refine WL.off rfl rfl rfl ?_
    refine WL.off rfl rfl rfl ?_
    refine WL.off rfl rfl rfl ?_
    refine WL.off rfl rfl rfl ?_
    refine WL.off rfl rfl rfl ?_
    refine WL.off rfl rfl rfl ?_
    refine WL.off rfl rfl rfl ?_
    refine WL.val (dx_pick rfl rfl rfl) rfl rfl ?_
    refine WL.val (dx_assign rfl rfl) rfl rfl ?_
    refine WL.nil ?_
    refine hK7 ?_
    refine WC.ret fun a_ ha_ => ?_
    exact hQ (cv_ret1 rfl (.tmp rfl) (by simp [goodZ, *]) hB ha_)

set_option maxHeartbeats 1000000 in
theorem right1_v (t s : SesX) (u : Value) (w : World) (L : List Nat) (hL : LL L w) (h0 : PtR L w u (encZ s)) : CV Tryz.prog 38 [.agg #[.int .i64 t.id, .string t.sec, .string t.med, .string t.whr, .string t.tok, .int .i64 t.att, .int .i64 t.since, .int .i64 t.wrong, .bool t.shown, .int .i64 t.sat], u] w fun v W => v = .bool (clashZ s t) := by
  refine cv_enter (N := 14) (f := [(0, .agg #[.int .i64 t.id, .string t.sec, .string t.med, .string t.whr, .string t.tok, .int .i64 t.att, .int .i64 t.since, .int .i64 t.wrong, .bool t.shown, .int .i64 t.sat]), (1, u)]) Tryz.func38 rfl rfl rfl rfl fun Q hQ hE => ?_
  have hB := Below.refl w.heap.size w
  refine WC.seq fun K1 hK1 => ?_
  refine WC.region ?_
  refine WL.get (dx_box rfl rfl rfl) rfl rfl ?_
  rintro _ W2 ⟨rfl, k3, b4, z5⟩
  have l6 := hB.size
  replace h0 := h0.more b4 (Nat.le_refl _)
  replace hB := below_then hB b4
  replace hL := LL.more hL z5
  refine WL.val (dx_assign rfl rfl) rfl rfl ?_
  refine WL.nil ?_
  refine hK1 ?_
  refine WC.seq fun K7 hK7 => ?_
  refine WC.region ?_
  refine WL.val (dx_loadPN rfl ty_agg_26_10 rfl h0 rfl) rfl rfl ?_
  refine WL.val (dx_loadN rfl ty_agg_26_10 rfl k3.range rfl) rfl rfl ?_
  refine WL.get (dx_cv rfl Tryz.func31 rfl rfl rfl (same_v s t W2 [] (LL.nil _))) rfl rfl ?_
  rintro _ W9 ⟨rfl, b8⟩
  replace h0 := h0.below b8
  replace k3 := k3.below b8
  replace hB := below_then hB b8
  replace hL := LL.below hL b8
  refine WL.val (dx_move rfl rfl) rfl rfl ?_
  refine WL.split 7 rfl (fun g10 => ?_) (fun g10 => ?_)
  ·
    refine WL.off rfl rfl rfl ?_
    refine WL.off rfl rfl rfl ?_
    refine WL.off rfl rfl rfl ?_
    refine WL.off rfl rfl rfl ?_
    refine WL.off rfl rfl rfl ?_
    refine WL.val (dx_pick rfl rfl rfl) rfl rfl ?_
    refine WL.val (dx_assign rfl rfl) rfl rfl ?_
    refine WL.nil ?_
    refine hK7 ?_
    refine WC.ret fun a_ ha_ => ?_
    exact hQ (cv_ret1 rfl (.tmp rfl) (by simp [clashZ, *]) hB ha_)
  ·
    refine WL.get (dx_fldP 1 rfl ty_fld_26_3_4 rfl h0 (cs' := [.string s.tok]) rfl (Nat.succ_pos _)) rfl rfl ?_
    rintro u11 _ ⟨rfl, p12⟩
    refine WL.val (dx_loadP rfl ty_one_9 rfl p12) rfl rfl ?_
    refine WL.val (dx_fld (o1 := 4) rfl ty_fld_26_3_4 rfl rfl) rfl rfl ?_
    refine WL.val (dx_load rfl ty_one_9 rfl (k3.cell (k := 4) rfl)) rfl rfl ?_
    refine WL.val (dx_eqlT rfl rfl rfl) rfl rfl ?_
    refine WL.val (dx_pick rfl rfl rfl) rfl rfl ?_
    refine WL.val (dx_assign rfl rfl) rfl rfl ?_
    refine WL.nil ?_
    refine hK7 ?_
    refine WC.ret fun a_ ha_ => ?_
    exact hQ (cv_ret1 rfl (.tmp rfl) (by simp [clashZ, *]) hB ha_)

theorem stepZ {xs : List SesX} {i : Nat} {x y : SesX} {c d : Bool} (hv : ∀ k a, k < i → xs[k]? = some a → goodZ a = true) (hu : ∀ k a b, k + 1 < i → xs[k]? = some a → xs[k + 1]? = some b → ltZ a b = true) (hj : xs[i - 1]? = some y) (hi : xs[i]? = some x) (hc : c = !goodZ x) (hd : d = (!c && decide (0 < (i : Int)))) (h1 : c = false) (h2 : (d && decide (x.id ≤ y.id)) = false) :
    (∀ k a, k < i + 1 → xs[k]? = some a → goodZ a = true) ∧ (∀ k a b, k + 1 < i + 1 → xs[k]? = some a → xs[k + 1]? = some b → ltZ a b = true) := stepD (g := goodZ) (r := ltZ) hv hu hj hi hc hd h1 (by rw [← geZ]; exact h2)
theorem right_fZ {xs : List SesX} {i : Nat} {x y : SesX} {c d : Bool} (hj : xs[i - 1]? = some y) (hi : xs[i]? = some x) (hc : c = !goodZ x) (hd : d = (!c && decide (0 < (i : Int)))) (h : (c || (d && decide (x.id ≤ y.id))) = true) : rightZ xs = false := by
  unfold rightZ
  rw [right_fD (g := goodZ) (r := ltZ) hj hi hc hd (by rw [← geZ]; exact h), Bool.false_and]
set_option maxHeartbeats 1000000 in
theorem rightZ_v (xs : List SesX) (sv : Value) (w : World) (L : List Nat) (hL : LL L w) (h1 : RdF 10 L w sv (xs.map encZ)) (hM : MaxL L w)  (hsz : smallZ xs) : CV Tryz.prog 22 [sv] w fun v W => v = .bool (rightZ xs) := by
  refine cv_enter (N := 39) (f := [(0, sv)]) Tryz.func22 rfl rfl rfl rfl fun Q hQ hE => ?_
  have hB := Below.refl w.heap.size w
  have h1m : xs.length ≤ maxLen := by have := h1.len; rwa [List.length_map] at this
  unfold maxLen at h1m
  refine WC.seq fun K1 hK1 => ?_
  refine WC.region ?_
  refine WL.val (dx_assign rfl rfl) rfl rfl ?_
  refine WL.nil ?_
  refine hK1 ?_
  refine WC.seq fun K2 hK2 => ?_
  refine WC.seq fun K3 hK3 => ?_
  refine WC.region ?_
  refine WL.val (dx_move rfl rfl) rfl rfl ?_
  refine WL.val (dx_lenX rfl ty_slice_22 rfl h1) rfl rfl ?_
  refine WL.val (dx_gtr rfl rfl rfl) rfl rfl ?_
  refine WL.nil ?_
  refine hK3 ?_
  refine WC.cond rfl (fun c4 => ?_) (fun c4 => ?_)
  ·
    replace c4 := of_decide_eq_true c4
    refine WC.seq fun K5 hK5 => ?_
    refine WC.region ?_
    refine WL.val (dx_assign rfl rfl) rfl rfl ?_
    refine WL.nil ?_
    refine hK5 ?_
    refine WC.ret fun a_ ha_ => ?_
    exact hQ (cv_ret1 rfl (.tmp rfl) (by rw [show rightZ xs = false from by unfold rightZ; rw [right_f1 (by omega), Bool.false_and]]) hB ha_)
  ·
    replace c4 := of_decide_eq_false c4
    refine WC.skip ?_
    refine hK2 ?_
    refine WC.seq fun K6 hK6 => ?_
    refine WC.seq fun K7 hK7 => ?_
    refine WC.region ?_
    refine WL.val (dx_move rfl rfl) rfl rfl ?_
    refine WL.val (dx_lenX rfl ty_slice_22 rfl h1) rfl rfl ?_
    refine WL.val (dx_move rfl rfl) rfl rfl ?_
    refine WL.nil ?_
    refine hK7 ?_
    refine WC.block ?_
    refine WC.loop (fun (i : Nat) => [(0, sv), (8, sv), (9, .int .i64 (xs.length : Int)), (10, .int .i64 (i : Int))]) (fun (i : Nat) W => i ≤ xs.length ∧ (∀ k a, k < i → xs[k]? = some a → goodZ a = true) ∧ (∀ k a b, k + 1 < i → xs[k]? = some a → xs[k + 1]? = some b → (ltZ) a b = true) ∧ (∀ k s, k < i → xs[k]? = some s → (xs.take k).any (clashZ s) = false) ∧ Below w.heap.size w W ∧ LL (L) W ∧ RdF 10 (L) W sv (xs.map encZ) ∧ MaxL (L) W) (fun (i : Nat) => xs.length - i) 0 (by repeat first | exact trivial | exact And.intro rfl trivial | refine And.intro rfl ?_ | refine And.intro (congrArg (fun z : Int => some (Value.int .i64 z)) (by omega)) ?_) ⟨Nat.zero_le _, (fun k a hk => by omega), (fun k a b hk => by omega), (fun k s hk => by omega), hB, hL, h1, hM⟩ ?_
    clear h1 hM hB hL
    rintro K8 i W9 ⟨hi, hv, hu, ha, hB, hL, h1, hM⟩ hK8
    refine WC.seq fun K10 hK10 => ?_
    refine WC.region ?_
    refine WL.val (dx_lss rfl rfl rfl) rfl rfl ?_
    refine WL.nil ?_
    refine hK10 ?_
    refine WC.seq fun K11 hK11 => ?_
    refine WC.cond rfl (fun c12 => ?_) (fun c12 => ?_)
    ·
      replace c12 := of_decide_eq_true c12
      refine WC.skip ?_
      refine hK11 ?_
      refine WC.seq fun K13 hK13 => ?_
      refine WC.block ?_
      refine WC.seq fun K14 hK14 => ?_
      refine WC.region ?_
      refine WL.val (dx_move rfl rfl) rfl rfl ?_
      obtain ⟨r15, e16⟩ : ∃ x, xs[i]? = some x := ⟨_, List.getElem?_eq_getElem (by omega)⟩
      refine WL.get (dx_idxF i rfl ty_slice_22 rfl rfl h1 (by omega) (at_mapX e16)) rfl rfl ?_
      rintro u17 _ ⟨rfl, p18⟩
      refine WL.val (dx_loadPN rfl ty_agg_26_10 rfl p18 rfl) rfl rfl ?_
      refine WL.get (dx_alloc rfl ty_zero_26 rfl) rfl rfl ?_
      rintro _ W19 ⟨rfl, k20, b21, z22⟩
      have l23 := hB.size
      replace h1 := h1.more b21 (Nat.le_refl _)
      replace hM := hM.more b21 (Nat.le_refl _)
      replace p18 := p18.more b21 (Nat.le_refl _)
      replace hB := below_then hB b21
      replace hL := LL.more hL z22
      refine WL.val (dx_assign rfl rfl) rfl rfl ?_
      refine WL.do (dx_store (cs' := [.int .i64 r15.id, .string r15.sec, .string r15.med, .string r15.whr, .string r15.tok, .int .i64 r15.att, .int .i64 r15.since, .int .i64 r15.wrong, .bool r15.shown, .int .i64 r15.sat]) (vs := [.int .i64 r15.id, .string r15.sec, .string r15.med, .string r15.whr, .string r15.tok, .int .i64 r15.att, .int .i64 r15.since, .int .i64 r15.wrong, .bool r15.shown, .int .i64 r15.sat]) rfl ty_size_26_10 rfl rfl rfl (oc_cons rfl (oc_cons rfl (oc_cons rfl (oc_cons rfl (oc_cons rfl (oc_cons rfl (oc_cons rfl (oc_cons rfl (oc_cons rfl (oc_cons rfl oc_nil)))))))))) k20 rfl (Nat.le_of_ble_eq_true rfl) rfl) rfl ?_
      rintro _ W24 ⟨k26, o25⟩
      clear k20
      replace h1 := h1.only o25 (.head _)
      replace hM := hM.only o25 (.head _)
      replace p18 := p18.only o25 (.head _)
      replace hB := o25.below hB l23
      replace hL := LL.only hL o25
      refine WL.nil ?_
      refine hK14 ?_
      refine WC.seq fun K27 hK27 => ?_
      refine WC.seq fun K28 hK28 => ?_
      obtain ⟨b29, hb29⟩ : ∃ b, b = (!(goodZ r15)) := ⟨_, rfl⟩
      obtain ⟨b30, hb30⟩ : ∃ b, b = ((!b29) && (decide (0 < (i : Int)))) := ⟨_, rfl⟩
      obtain ⟨r31, e32⟩ : ∃ x, xs[(i - 1)]? = some x := ⟨_, List.getElem?_eq_getElem (by omega)⟩
      refine WC.drawM 18 [(some 15, .is (.agg #[.int .i64 r15.id, .string r15.sec, .string r15.med, .string r15.whr, .string r15.tok, .int .i64 r15.att, .int .i64 r15.since, .int .i64 r15.wrong, .bool r15.shown, .int .i64 r15.sat])), (some 16, .is (.bool (goodZ r15))), (some 17, .is (.bool (!(goodZ r15)))), (some 18, .is (.bool b29)), (some 19, .is (bif b29 then undef else .int .i64 (i : Int))), (some 20, .is (bif b29 then undef else .bool (decide (0 < (i : Int))))), (some 21, .is (bif b29 then undef else .bool b30)), (some 22, .is (bif b30 then sv else undef)), (some 23, .is (bif b30 then .int .i64 (i : Int) else undef)), (some 24, .is (bif b30 then .int .i64 ((i : Int) - 1) else undef)), (some 25, .by fun u W => b30 = true → PtR (W9.heap.size :: L) W u (encZ r31)), (some 26, .by fun u W => b30 = true → PtR (W9.heap.size :: L) W u [.int .i64 r31.id]), (some 27, .is (bif b30 then .int .i64 r31.id else undef)), (some 28, .is (bif b30 then .pointer (some ⟨W9.heap.size, 0, none⟩) else undef)), (some 29, .is (bif b30 then .int .i64 r15.id else undef)), (some 30, .is (bif b30 then .bool (decide (r15.id ≤ r31.id)) else undef)), (some 31, .is (bif b29 then undef else .bool (b30 && (decide (r15.id ≤ r31.id))))), (some 32, .is (.bool (b29 || (b30 && (decide (r15.id ≤ r31.id))))))] [[], [0], [1], [2, 1], [3], [4, 3], [5, 3, 3], [6], [6], [8, 6], [7, 9, 6], [10, 6], [11, 6], [6], [13, 6], [12, 14, 6], [6, 15, 3], [3, 16]] (by kernel_rfl) (by kernel_rfl) (by kernel_rfl) (by kernel_rfl) (by kernel_rfl) (by kernel_rfl) (by kernel_rfl) ⟨fun _ _ _ hb h g => (h g).below hb, fun _ _ _ hb h g => (h g).below hb, trivial⟩ ?_ ?_
      ·
        refine DSteps.cons (fun Wd hd => ?_) ?_
        ·
          have k26 := k26.below hd
          exact DV.dr (dx_loadN rfl ty_agg_26_10 rfl k26.range rfl) ⟨Below.refl _ _, rfl⟩
        refine DSteps.cons (fun Wd hd => ?_) ?_
        ·
          have hM := hM.below hd
          exact DR.mono (dx_cv rfl Tryz.func29 rfl rfl rfl (goodZ_v r15 Wd _ (LL.below hL hd) hM (hsz r15 (List.mem_of_getElem? e16)))) (fun v W' ⟨h, hb⟩ => ⟨hb, (by rw [h]; exact rfl)⟩)
        refine DSteps.cons (fun Wd hd => ?_) ?_
        ·
          exact DV.dr (dx_not rfl rfl) ⟨Below.refl _ _, rfl⟩
        refine DSteps.cons (fun Wd hd => ?_) ?_
        ·
          exact DV.dr (dx_move rfl rfl) ⟨Below.refl _ _, by rw [hb29]; rfl⟩
        refine DSteps.cons (fun Wd hd => ?_) ?_
        ·
          cases b29
          ·
            exact DV.dr (dx_move rfl rfl) ⟨Below.refl _ _, rfl⟩
          ·
            exact DV.dr (dv_off rfl) ⟨Below.refl _ _, rfl⟩
        refine DSteps.cons (fun Wd hd => ?_) ?_
        ·
          cases b29
          ·
            exact DV.dr (dx_gtr rfl rfl rfl) ⟨Below.refl _ _, rfl⟩
          ·
            exact DV.dr (dv_off rfl) ⟨Below.refl _ _, rfl⟩
        refine DSteps.cons (fun Wd hd => ?_) ?_
        ·
          cases b29
          ·
            exact DV.dr (dx_move rfl rfl) ⟨Below.refl _ _, by rw [hb30]; rfl⟩
          ·
            exact DV.dr (dv_off rfl) ⟨Below.refl _ _, by rw [hb30]; rfl⟩
        refine DSteps.cons (fun Wd hd => ?_) ?_
        ·
          cases b29
          ·
            cases b30
            ·
              exact DV.dr (dv_off rfl) ⟨Below.refl _ _, rfl⟩
            ·
              exact DV.dr (dx_move rfl rfl) ⟨Below.refl _ _, rfl⟩
          ·
            cases b30
            ·
              exact DV.dr (dv_off rfl) ⟨Below.refl _ _, rfl⟩
            ·
              exact absurd hb30 (by simp)
        refine DSteps.cons (fun Wd hd => ?_) ?_
        ·
          cases b29
          ·
            cases b30
            ·
              exact DV.dr (dv_off rfl) ⟨Below.refl _ _, rfl⟩
            ·
              exact DV.dr (dx_move rfl rfl) ⟨Below.refl _ _, rfl⟩
          ·
            cases b30
            ·
              exact DV.dr (dv_off rfl) ⟨Below.refl _ _, rfl⟩
            ·
              exact absurd hb30 (by simp)
        refine DSteps.cons (fun Wd hd => ?_) ?_
        ·
          cases b29
          ·
            cases b30
            ·
              exact DV.dr (dv_off rfl) ⟨Below.refl _ _, rfl⟩
            ·
              exact DV.dr (dx_sub (r := (i : Int) - 1) rfl rfl rfl (wrap64_id (by omega))) ⟨Below.refl _ _, rfl⟩
          ·
            cases b30
            ·
              exact DV.dr (dv_off rfl) ⟨Below.refl _ _, rfl⟩
            ·
              exact absurd hb30 (by simp)
        refine DSteps.cons (fun Wd hd => ?_) ?_
        ·
          cases b29
          ·
            cases b30
            ·
              exact DV.dr (dv_off rfl) ⟨Below.refl _ _, fun h => by cases h⟩
            ·
              have h1 := h1.below hd
              exact (dx_idxF (i - 1) rfl ty_slice_22 rfl rfl h1 (by first | omega | (have hq_ := of_decide_eq_true hb30.symm; omega)) (at_mapX e32)).mono (fun v W' h => ⟨by rw [← h.1]; exact Below.refl _ _, fun _ => by rw [← h.1]; exact h.2⟩)
          ·
            cases b30
            ·
              exact DV.dr (dv_off rfl) ⟨Below.refl _ _, fun h => by cases h⟩
            ·
              exact absurd hb30 (by simp)
        refine DSteps.cons (fun Wd hd => ?_) ?_
        ·
          intro u6_10 p6_10
          cases b29
          ·
            cases b30
            ·
              exact DV.dr (dv_off rfl) ⟨Below.refl _ _, fun h => by cases h⟩
            ·
              replace p6_10 := p6_10 rfl
              exact (dx_fldP 1 rfl ty_fld_26_0_0 rfl p6_10 (cs' := [.int .i64 r31.id]) rfl (Nat.succ_pos _)).mono (fun v W' h => ⟨by rw [← h.1]; exact Below.refl _ _, fun _ => by rw [← h.1]; exact h.2⟩)
          ·
            cases b30
            ·
              exact DV.dr (dv_off rfl) ⟨Below.refl _ _, fun h => by cases h⟩
            ·
              replace p6_10 := p6_10 rfl
              exact absurd hb30 (by simp)
        refine DSteps.cons (fun Wd hd => ?_) ?_
        ·
          intro u6_11 p6_11
          cases b29
          ·
            cases b30
            ·
              exact DV.dr (dv_off rfl) ⟨Below.refl _ _, rfl⟩
            ·
              replace p6_11 := p6_11 rfl
              exact DV.dr (dx_loadP rfl ty_one_3 rfl p6_11) ⟨Below.refl _ _, rfl⟩
          ·
            cases b30
            ·
              exact DV.dr (dv_off rfl) ⟨Below.refl _ _, rfl⟩
            ·
              replace p6_11 := p6_11 rfl
              exact absurd hb30 (by simp)
        refine DSteps.cons (fun Wd hd => ?_) ?_
        ·
          cases b29
          ·
            cases b30
            ·
              exact DV.dr (dv_off rfl) ⟨Below.refl _ _, rfl⟩
            ·
              exact DV.dr (dx_fld (o1 := 0) rfl ty_fld_26_0_0 rfl rfl) ⟨Below.refl _ _, rfl⟩
          ·
            cases b30
            ·
              exact DV.dr (dv_off rfl) ⟨Below.refl _ _, rfl⟩
            ·
              exact absurd hb30 (by simp)
        refine DSteps.cons (fun Wd hd => ?_) ?_
        ·
          cases b29
          ·
            cases b30
            ·
              exact DV.dr (dv_off rfl) ⟨Below.refl _ _, rfl⟩
            ·
              have k26 := k26.below hd
              exact DV.dr (dx_load rfl ty_one_3 rfl (k26.cell (k := 0) rfl)) ⟨Below.refl _ _, rfl⟩
          ·
            cases b30
            ·
              exact DV.dr (dv_off rfl) ⟨Below.refl _ _, rfl⟩
            ·
              exact absurd hb30 (by simp)
        refine DSteps.cons (fun Wd hd => ?_) ?_
        ·
          cases b29
          ·
            cases b30
            ·
              exact DV.dr (dv_off rfl) ⟨Below.refl _ _, rfl⟩
            ·
              exact DV.dr (dx_geq rfl rfl rfl) ⟨Below.refl _ _, rfl⟩
          ·
            cases b30
            ·
              exact DV.dr (dv_off rfl) ⟨Below.refl _ _, rfl⟩
            ·
              exact absurd hb30 (by simp)
        refine DSteps.cons (fun Wd hd => ?_) ?_
        ·
          cases b29
          ·
            cases b30
            ·
              exact DV.dr (dx_pick rfl rfl rfl) ⟨Below.refl _ _, rfl⟩
            ·
              exact DV.dr (dx_pick rfl rfl rfl) ⟨Below.refl _ _, rfl⟩
          ·
            cases b30
            ·
              exact DV.dr (dv_off rfl) ⟨Below.refl _ _, rfl⟩
            ·
              exact absurd hb30 (by simp)
        refine DSteps.cons (fun Wd hd => ?_) ?_
        ·
          cases b29
          ·
            exact DV.dr (dx_pick rfl rfl rfl) ⟨Below.refl _ _, rfl⟩
          ·
            exact DV.dr (dx_pick rfl rfl rfl) ⟨Below.refl _ _, rfl⟩
        exact trivial
      ·
        intro W33 b34
        intro _ _
        intro _ _
        replace h1 := h1.below b34
        replace hM := hM.below b34
        replace k26 := k26.below b34
        replace hB := below_then hB b34
        replace hL := LL.below hL b34
        refine WL.nil ?_
        refine hK28 ?_
        refine WC.cond rfl (fun c35 => ?_) (fun c35 => ?_)
        ·
          refine WC.seq fun K36 hK36 => ?_
          refine WC.region ?_
          refine WL.val (dx_assign rfl rfl) rfl rfl ?_
          refine WL.nil ?_
          refine hK36 ?_
          refine WC.ret fun a_ ha_ => ?_
          exact hQ (cv_ret1 rfl (.tmp rfl) (by rw [right_fZ e32 e16 hb29 hb30 c35]) hB ha_)
        ·
          obtain ⟨g37, g38⟩ := bor_f c35
          refine WC.skip ?_
          refine hK27 ?_
          refine WC.seq fun K39 hK39 => ?_
          refine WC.region ?_
          refine WL.val (dx_move rfl rfl) rfl rfl ?_
          refine WL.val (dx_move rfl rfl) rfl rfl ?_
          refine WL.get (dx_rdH i rfl ty_slice_22 rfl rfl rfl h1 (by rw [List.length_map]; exact hi)) rfl rfl ?_
          rintro u40 _ ⟨rfl, p41⟩
          replace p41 : RdF 10 (W9.heap.size :: L) W33 u40 ((xs.take i).map encZ) := by rw [List.map_take]; exact p41
          refine WL.val (dx_func rfl rfl rfl) rfl rfl ?_
          refine WL.get (dx_cv rfl Tryz.func32 rfl rfl rfl (containsFuncZ_v (xs.take i) (clashZ r15) _ _ W33 _ hL p41 (fun W hW x hx => fv_of (cs := [.pointer (some ⟨W9.heap.size, 0, none⟩)]) Tryz.func38 rfl rfl (right1_v x r15 _ W [] (LL.nil _) ⟨Nat.succ_pos _, W9.heap.size, 0, rfl, by simp, (k26.below hW).range⟩)))) rfl rfl ?_
          rintro _ W43 ⟨rfl, b42⟩
          replace h1 := h1.below b42
          replace hM := hM.below b42
          replace p41 := p41.below b42
          replace k26 := k26.below b42
          replace hB := below_then hB b42
          replace hL := LL.below hL b42
          refine WL.nil ?_
          refine hK39 ?_
          refine WC.cond rfl (fun c44 => ?_) (fun c44 => ?_)
          ·
            refine WC.seq fun K45 hK45 => ?_
            refine WC.region ?_
            refine WL.val (dx_assign rfl rfl) rfl rfl ?_
            refine WL.nil ?_
            refine hK45 ?_
            refine WC.ret fun a_ ha_ => ?_
            exact hQ (cv_ret1 rfl (.tmp rfl) (by rw [show rightZ xs = false from by unfold rightZ; rw [apart_f e16 c44, Bool.and_false]]) hB ha_)
          ·
            refine WC.skip ?_
            refine hK13 ?_
            refine WC.region ?_
            refine WL.val (dx_add (r := (i : Int) + 1) rfl rfl rfl (wrap64_id (by omega))) rfl rfl ?_
            refine WL.val (dx_move rfl rfl) rfl rfl ?_
            refine WL.nil ?_
            obtain ⟨hv', hu'⟩ := stepZ hv hu e32 e16 hb29 hb30 g37 g38
            replace hL := hL.less (fun x hx => (.tail _ hx))
            replace h1 := h1.less (fun x hx => (.tail _ hx))
            replace hM := hM.less (fun x hx => (.tail _ hx))
            exact hK8 (i + 1) ⟨(by omega), hv', hu', (apart_step ha e16 c44), hB, hL, h1, hM⟩ (by omega) (by repeat first | exact trivial | exact And.intro rfl trivial | refine And.intro rfl ?_ | refine And.intro (congrArg (fun z : Int => some (Value.int .i64 z)) (by omega)) ?_)
    ·
      replace c12 := of_decide_eq_false c12
      refine WC.exit ?_
      refine hK6 ?_
      refine WC.seq fun K46 hK46 => ?_
      refine WC.region ?_
      refine WL.val (dx_assign rfl rfl) rfl rfl ?_
      refine WL.nil ?_
      refine hK46 ?_
      refine WC.ret fun a_ ha_ => ?_
      exact hQ (cv_ret1 rfl (.tmp rfl) (by rw [show rightZ xs = true from by unfold rightZ; rw [right_t (by omega) (fun k a hk => hv k a (by omega)) (fun k a b hk => hu k a b (by omega)), apart_t (fun k s hk => ha k s (by omega))]; rfl]) hB ha_)

abbrev ovZ (now : Int) (s : SesX) : Bool := decide (86400 < now - s.since)
set_option maxHeartbeats 1000000 in
theorem over_v (p : SesX) (now : Int) (w : World) (L : List Nat) (hL : LL L w)   (hq : (0 ≤ p.since ∧ p.since ≤ 1099511627776) ∧ (0 ≤ now ∧ now ≤ 1099511627776)) : CV Tryz.prog 28 [.agg #[.int .i64 p.id, .string p.sec, .string p.med, .string p.whr, .string p.tok, .int .i64 p.att, .int .i64 p.since, .int .i64 p.wrong, .bool p.shown, .int .i64 p.sat], .int .i64 now] w fun v W => v = .bool (ovZ now p) := by
  refine cv_enter (N := 10) (f := [(0, .agg #[.int .i64 p.id, .string p.sec, .string p.med, .string p.whr, .string p.tok, .int .i64 p.att, .int .i64 p.since, .int .i64 p.wrong, .bool p.shown, .int .i64 p.sat]), (1, .int .i64 now)]) Tryz.func28 rfl rfl rfl rfl fun Q hQ hE => ?_
  have hB := Below.refl w.heap.size w
  refine WC.seq fun K1 hK1 => ?_
  refine WC.region ?_
  refine WL.get (dx_box rfl rfl rfl) rfl rfl ?_
  rintro _ W2 ⟨rfl, k3, b4, z5⟩
  have l6 := hB.size
  replace hB := below_then hB b4
  replace hL := LL.more hL z5
  refine WL.val (dx_assign rfl rfl) rfl rfl ?_
  refine WL.nil ?_
  refine hK1 ?_
  refine WC.seq fun K7 hK7 => ?_
  refine WC.region ?_
  refine WL.val (dx_move rfl rfl) rfl rfl ?_
  refine WL.val (dx_fld (o1 := 6) rfl ty_fld_26_5_6 rfl rfl) rfl rfl ?_
  refine WL.val (dx_load rfl ty_one_3 rfl (k3.cell (k := 6) rfl)) rfl rfl ?_
  refine WL.val (dx_sub (r := now - p.since) rfl rfl rfl (wrap64_id (by omega))) rfl rfl ?_
  refine WL.val (dx_gtr rfl rfl rfl) rfl rfl ?_
  refine WL.val (dx_assign rfl rfl) rfl rfl ?_
  refine WL.nil ?_
  refine hK7 ?_
  refine WC.ret fun a_ ha_ => ?_
  exact hQ (cv_ret1 rfl (.tmp rfl) rfl hB ha_)

set_option maxHeartbeats 1000000 in
theorem prune1_v (p : SesX) (now : Int) (u : Value) (w : World) (L : List Nat) (hL : LL L w) (h0 : PtR L w u [.int .i64 now])  (hq : (0 ≤ p.since ∧ p.since ≤ 1099511627776) ∧ (0 ≤ now ∧ now ≤ 1099511627776)) : CV Tryz.prog 27 [.agg #[.int .i64 p.id, .string p.sec, .string p.med, .string p.whr, .string p.tok, .int .i64 p.att, .int .i64 p.since, .int .i64 p.wrong, .bool p.shown, .int .i64 p.sat], u] w fun v W => v = .bool (ovZ now p) := by
  refine cv_enter (N := 7) (f := [(0, .agg #[.int .i64 p.id, .string p.sec, .string p.med, .string p.whr, .string p.tok, .int .i64 p.att, .int .i64 p.since, .int .i64 p.wrong, .bool p.shown, .int .i64 p.sat]), (1, u)]) Tryz.func27 rfl rfl rfl rfl fun Q hQ hE => ?_
  have hB := Below.refl w.heap.size w
  refine WC.seq fun K1 hK1 => ?_
  refine WC.region ?_
  refine WL.get (dx_box rfl rfl rfl) rfl rfl ?_
  rintro _ W2 ⟨rfl, k3, b4, z5⟩
  have l6 := hB.size
  replace h0 := h0.more b4 (Nat.le_refl _)
  replace hB := below_then hB b4
  replace hL := LL.more hL z5
  refine WL.val (dx_assign rfl rfl) rfl rfl ?_
  refine WL.nil ?_
  refine hK1 ?_
  refine WC.seq fun K7 hK7 => ?_
  refine WC.region ?_
  refine WL.val (dx_loadN rfl ty_agg_26_10 rfl k3.range rfl) rfl rfl ?_
  refine WL.val (dx_loadP rfl ty_one_3 rfl h0) rfl rfl ?_
  refine WL.get (dx_cv rfl Tryz.func28 rfl rfl rfl (over_v p now W2 [] (LL.nil _) hq)) rfl rfl ?_
  rintro _ W9 ⟨rfl, b8⟩
  replace h0 := h0.below b8
  replace k3 := k3.below b8
  replace hB := below_then hB b8
  replace hL := LL.below hL b8
  refine WL.val (dx_assign rfl rfl) rfl rfl ?_
  refine WL.nil ?_
  refine hK7 ?_
  refine WC.ret fun a_ ha_ => ?_
  exact hQ (cv_ret1 rfl (.tmp rfl) rfl hB ha_)

set_option maxHeartbeats 1000000 in
theorem deleteFuncN_v (g : Value) (w : World) (L : List Nat) (hL : LL L w)  : CV Tryz.prog 26 [.slice none 0 0, g] w fun v W => v = .slice none 0 0 := by
  refine cv_enter (N := 42) (f := [(0, .slice none 0 0), (1, g)]) Tryz.func26 rfl rfl rfl rfl fun Q hQ hE => ?_
  have hB := Below.refl w.heap.size w
  refine WC.seq fun K1 hK1 => ?_
  refine WC.region ?_
  refine WL.val (dx_assign rfl rfl) rfl rfl ?_
  refine WL.nil ?_
  refine hK1 ?_
  refine WC.seq fun K2 hK2 => ?_
  refine WC.region ?_
  refine WL.val (dx_move rfl rfl) rfl rfl ?_
  refine WL.val (dx_move rfl rfl) rfl rfl ?_
  refine WL.get (dx_cv rfl Tryz.func23 rfl rfl rfl (indexFuncZ_v [] (fun _ => false) _ _ w [] (LL.nil _) (RdF.nil (by decide)) (fun W hW x hx => by cases hx))) rfl rfl ?_
  rintro _ W4 ⟨rfl, b3⟩
  replace hB := below_then hB b3
  replace hL := LL.below hL b3
  refine WL.val (dx_assign rfl rfl) rfl rfl ?_
  refine WL.nil ?_
  refine hK2 ?_
  refine WC.seq fun K5 hK5 => ?_
  refine WC.seq fun K6 hK6 => ?_
  refine WC.region ?_
  refine WL.val (dx_move rfl rfl) rfl rfl ?_
  refine WL.val (dx_eql rfl rfl rfl) rfl rfl ?_
  refine WL.nil ?_
  refine hK6 ?_
  refine WC.condT rfl ?_
  refine WC.seq fun K7 hK7 => ?_
  refine WC.region ?_
  refine WL.val (dx_move rfl rfl) rfl rfl ?_
  refine WL.val (dx_assign rfl rfl) rfl rfl ?_
  refine WL.nil ?_
  refine hK7 ?_
  refine WC.ret fun a_ ha_ => ?_
  exact hQ (cv_ret1 rfl (.tmp rfl) rfl hB ha_)

theorem deleteSZ_v (xs : List SesX) (p : SesX → Bool) (u g : Value) (base : Nat) (w : World) (hu : NewS 10 base (xs.map encZ) u w) (hb : base ≤ w.heap.size) (hg : ∀ W, Below base w W → ∀ x ∈ xs, FV Tryz.prog g [.agg (encZ x).toArray] W fun v _ => v = .bool (p x)) :
    Calls Tryz.prog 26 [u, g].toArray w fun e w' => ∃ x, e = .returned x ∧ NewW 10 base ((xs.filter (fun x => !p x)).map encZ) x w' ∧ Below base w w' := by
  rcases hu with ⟨rfl, he, _⟩ | ⟨B, sp, hB, rfl, hO, he⟩
  · have hx : xs = [] := by simpa using he
    subst hx
    exact Calls.mono (deleteFuncN_v g w [] (LL.nil _)) fun e w' ⟨x, h1, h2, h3⟩ => ⟨x, h1, .inl ⟨h2, rfl, by decide⟩, h3.mono hb⟩
  · have hO' := hO.own
    rw [List.length_map] at hO' ⊢
    exact Calls.mono (deleteFuncZ_v xs p g B _ w [] (fun x hx => by rw [List.mem_singleton.1 hx]; exact hO.lt) hO' (fun W hW x hx => hg W (hW.from_base hB hb) x hx)) fun e w' ⟨x, h1, h2, h3⟩ => ⟨x, h1, .inr ⟨B, hB, h2⟩, h3.from_base hB hb⟩
theorem numZ_t {n l : Int} (h : numZ n l = true) : l ≤ n ∧ n ≤ 1099511627776 := by simpa using h
set_option maxHeartbeats 1000000 in
theorem prune_v (xs : List SesX) (now : Int) (sv : Value) (w : World) (L : List Nat) (hL : LL L w) (h1 : RdF 10 L w sv (xs.map encZ)) (hM : MaxL L w)  (hsz : smallZ xs) : CV Tryz.prog 13 [sv, .int .i64 now] w fun v W => NewW 10 w.heap.size ((pruneZ xs now).map encZ) v W := by
  refine cv_enter (N := 17) (f := [(0, sv), (1, .int .i64 now)]) Tryz.func13 rfl rfl rfl rfl fun Q hQ hE => ?_
  have hB := Below.refl w.heap.size w
  have h1m : xs.length ≤ maxLen := by have := h1.len; rwa [List.length_map] at this
  unfold maxLen at h1m
  refine WC.seq fun K1 hK1 => ?_
  refine WC.region ?_
  refine WL.get (dx_box (cs := [.int .i64 now]) rfl rfl rfl) rfl rfl ?_
  rintro _ W2 ⟨rfl, k3, b4, z5⟩
  have l6 := hB.size
  replace h1 := h1.more b4 (Nat.le_refl _)
  replace hM := hM.more b4 (Nat.le_refl _)
  replace hB := below_then hB b4
  replace hL := LL.more hL z5
  refine WL.val (dx_assign rfl rfl) rfl rfl ?_
  refine WL.nil ?_
  refine hK1 ?_
  refine WC.seq fun K7 hK7 => ?_
  refine WC.seq fun K8 hK8 => ?_
  refine WC.region ?_
  refine WL.val (dx_move rfl rfl) rfl rfl ?_
  refine WL.get (dx_cv rfl Tryz.func22 rfl rfl rfl (rightZ_v xs _ W2 _ hL h1 hM hsz)) rfl rfl ?_
  rintro _ W10 ⟨rfl, b9⟩
  replace h1 := h1.below b9
  replace hM := hM.below b9
  replace k3 := k3.below b9
  replace hB := below_then hB b9
  replace hL := LL.below hL b9
  refine WL.val (dx_not rfl rfl) rfl rfl ?_
  refine WL.val (dx_move rfl rfl) rfl rfl ?_
  refine WL.split 8 rfl (fun g11 => ?_) (fun g11 => ?_)
  ·
    replace g11 := bnot_t g11
    refine WL.off rfl rfl rfl ?_
    refine WL.off rfl rfl rfl ?_
    refine WL.off rfl rfl rfl ?_
    refine WL.val (dx_pick rfl rfl rfl) rfl rfl ?_
    refine WL.nil ?_
    refine hK8 ?_
    refine WC.condT rfl ?_
    refine WC.seq fun K12 hK12 => ?_
    refine WC.region ?_
    refine WL.val (dx_assign rfl rfl) rfl rfl ?_
    refine WL.nil ?_
    refine hK12 ?_
    refine WC.ret fun a_ ha_ => ?_
    exact hQ (cv_ret1 rfl (.tmp rfl) (by have e : pruneZ xs now = [] := (by unfold pruneZ; rw [if_neg (by intro h; simp_all)]); rw [e]; exact .inl ⟨rfl, rfl, by decide⟩) hB ha_)
  ·
    replace g11 := bnot_f g11
    refine WL.val (dx_load rfl ty_one_3 rfl (k3.cell (k := 0) rfl)) rfl rfl ?_
    refine WL.get (dx_cv rfl Tryz.func25 rfl rfl rfl (number_v now 0 W10 [] (LL.nil _))) rfl rfl ?_
    rintro _ W14 ⟨rfl, b13⟩
    replace h1 := h1.below b13
    replace hM := hM.below b13
    replace k3 := k3.below b13
    replace hB := below_then hB b13
    replace hL := LL.below hL b13
    refine WL.val (dx_not rfl rfl) rfl rfl ?_
    refine WL.val (dx_pick rfl rfl rfl) rfl rfl ?_
    refine WL.nil ?_
    refine hK8 ?_
    refine WC.cond rfl (fun c15 => ?_) (fun c15 => ?_)
    ·
      replace c15 := bnot_t c15
      refine WC.seq fun K16 hK16 => ?_
      refine WC.region ?_
      refine WL.val (dx_assign rfl rfl) rfl rfl ?_
      refine WL.nil ?_
      refine hK16 ?_
      refine WC.ret fun a_ ha_ => ?_
      exact hQ (cv_ret1 rfl (.tmp rfl) (by have e : pruneZ xs now = [] := (by unfold pruneZ; rw [if_neg (by intro h; simp_all)]); rw [e]; exact .inl ⟨rfl, rfl, by decide⟩) hB ha_)
    ·
      replace c15 := bnot_f c15
      refine WC.skip ?_
      refine hK7 ?_
      refine WC.seq fun K17 hK17 => ?_
      have hr := (show rightZ xs = true by assumption)
      have hnw := numZ_t (show numZ now 0 = true by assumption)
      have hrl := rightZ_len hr
      have zkn := k3
      have zhB := hB
      refine WC.region ?_
      refine WL.val (dx_move rfl rfl) rfl rfl ?_
      refine WL.get (dx_cv rfl Tryz.func18 rfl rfl rfl (cloneSSession_v _ _ W14 _ hL h1 (oc_rowsX oc_Z xs) (by rw [List.length_map]; omega))) rfl rfl ?_
      rintro u18 W19 ⟨p20, b21⟩
      have zp20 := p20
      replace h1 := h1.below b21
      replace hM := hM.below b21
      replace k3 := k3.below b21
      replace hB := below_then hB b21
      replace hL := LL.below hL b21
      refine WL.val (dx_func rfl rfl rfl) rfl rfl ?_
      refine WL.get (dx_callA rfl Tryz.func26 rfl rfl rfl (deleteSZ_v xs (ovZ now) _ _ W14.heap.size W19 p20 b21.size (fun W hW x hx => fv_of (cs := [.pointer (some ⟨w.heap.size, 0, none⟩)]) Tryz.func27 rfl rfl (prune1_v x now _ W [] (LL.nil _) ⟨Nat.succ_pos _, w.heap.size, 0, rfl, by simp, (zkn.below (b21.trans hW)).range⟩ ⟨(goodZ_t (((rightZ_iff xs).1 hr).2.1 x hx)).2.2.1, hnw⟩)))) rfl rfl ?_
      rintro x22 W23 ⟨h24, b25⟩
      have b25t := b21.trans b25
      replace hB := below_then zhB b25t
      refine WL.val (dx_assign rfl rfl) rfl rfl ?_
      refine WL.nil ?_
      refine hK17 ?_
      refine WC.ret fun a_ ha_ => ?_
      exact hQ (cv_ret1 rfl (.tmp rfl) (by have e : pruneZ xs now = xs.filter (fun x => !ovZ now x) := (by unfold pruneZ; rw [if_pos ⟨hr, by assumption⟩]); rw [e]; exact h24.le zhB.size) hB ha_)

set_option maxHeartbeats 1000000 in
theorem find1_v (p : SesX) (id : Int) (u : Value) (w : World) (L : List Nat) (hL : LL L w) (h0 : PtR L w u [.int .i64 id]) : CV Tryz.prog 24 [.agg #[.int .i64 p.id, .string p.sec, .string p.med, .string p.whr, .string p.tok, .int .i64 p.att, .int .i64 p.since, .int .i64 p.wrong, .bool p.shown, .int .i64 p.sat], u] w fun v W => v = .bool (idP id p) := by
  refine cv_enter (N := 8) (f := [(0, .agg #[.int .i64 p.id, .string p.sec, .string p.med, .string p.whr, .string p.tok, .int .i64 p.att, .int .i64 p.since, .int .i64 p.wrong, .bool p.shown, .int .i64 p.sat]), (1, u)]) Tryz.func24 rfl rfl rfl rfl fun Q hQ hE => ?_
  have hB := Below.refl w.heap.size w
  refine WC.seq fun K1 hK1 => ?_
  refine WC.region ?_
  refine WL.get (dx_box rfl rfl rfl) rfl rfl ?_
  rintro _ W2 ⟨rfl, k3, b4, z5⟩
  have l6 := hB.size
  replace h0 := h0.more b4 (Nat.le_refl _)
  replace hB := below_then hB b4
  replace hL := LL.more hL z5
  refine WL.val (dx_assign rfl rfl) rfl rfl ?_
  refine WL.nil ?_
  refine hK1 ?_
  refine WC.seq fun K7 hK7 => ?_
  refine WC.region ?_
  refine WL.val (dx_fld (o1 := 0) rfl ty_fld_26_0_0 rfl rfl) rfl rfl ?_
  refine WL.val (dx_load rfl ty_one_3 rfl (k3.cell (k := 0) rfl)) rfl rfl ?_
  refine WL.val (dx_loadP rfl ty_one_3 rfl h0) rfl rfl ?_
  refine WL.val (dx_eql rfl rfl rfl) rfl rfl ?_
  refine WL.val (dx_assign rfl rfl) rfl rfl ?_
  refine WL.nil ?_
  refine hK7 ?_
  refine WC.ret fun a_ ha_ => ?_
  exact hQ (cv_ret1 rfl (.tmp rfl) rfl hB ha_)

set_option maxHeartbeats 1000000 in
theorem findZ_v (xs : List SesX) (id : Int) (sv : Value) (w : World) (L : List Nat) (hL : LL L w) (h1 : RdF 10 L w sv (xs.map encZ)) (hM : MaxL L w)  (hsz : smallZ xs) : CV Tryz.prog 10 [sv, .int .i64 id] w fun v W => v = .tuple #[.agg (encZ (findZ xs id).1).toArray, .bool (findZ xs id).2] := by
  refine cv_enter (N := 21) (f := [(0, sv), (1, .int .i64 id)]) Tryz.func10 rfl rfl rfl rfl fun Q hQ hE => ?_
  have hB := Below.refl w.heap.size w
  have h1m : xs.length ≤ maxLen := by have := h1.len; rwa [List.length_map] at this
  unfold maxLen at h1m
  refine WC.seq fun K1 hK1 => ?_
  refine WC.region ?_
  refine WL.get (dx_box (cs := [.int .i64 id]) rfl rfl rfl) rfl rfl ?_
  rintro _ W2 ⟨rfl, k3, b4, z5⟩
  have l6 := hB.size
  replace h1 := h1.more b4 (Nat.le_refl _)
  replace hM := hM.more b4 (Nat.le_refl _)
  replace hB := below_then hB b4
  replace hL := LL.more hL z5
  refine WL.get (dx_alloc rfl ty_zero_26 rfl) rfl rfl ?_
  rintro _ W7 ⟨rfl, k8, b9, z10⟩
  have n11 : w.heap.size ≠ W2.heap.size := Nat.ne_of_lt k3.lt
  have l12 := hB.size
  replace h1 := h1.more b9 (Nat.le_refl _)
  replace hM := hM.more b9 (Nat.le_refl _)
  replace k3 := k3.below b9
  replace hB := below_then hB b9
  replace hL := LL.more hL z10
  refine WL.val (dx_assign rfl rfl) rfl rfl ?_
  refine WL.nil ?_
  refine hK1 ?_
  refine WC.seq fun K13 hK13 => ?_
  refine WC.seq fun K14 hK14 => ?_
  refine WC.region ?_
  refine WL.val (dx_move rfl rfl) rfl rfl ?_
  refine WL.get (dx_cv rfl Tryz.func22 rfl rfl rfl (rightZ_v xs _ W7 _ hL h1 hM hsz)) rfl rfl ?_
  rintro _ W16 ⟨rfl, b15⟩
  replace h1 := h1.below b15
  replace hM := hM.below b15
  replace k3 := k3.below b15
  replace k8 := k8.below b15
  replace hB := below_then hB b15
  replace hL := LL.below hL b15
  refine WL.val (dx_not rfl rfl) rfl rfl ?_
  refine WL.nil ?_
  refine hK14 ?_
  refine WC.cond rfl (fun c17 => ?_) (fun c17 => ?_)
  ·
    replace c17 := bnot_t c17
    refine WC.seq fun K18 hK18 => ?_
    refine WC.region ?_
    refine WL.val (dx_build rfl rfl (built_of_O (cs := [.int .i64 0, .string ⟨#[]⟩, .string ⟨#[]⟩, .string ⟨#[]⟩, .string ⟨#[]⟩, .int .i64 0, .int .i64 0, .int .i64 0, .bool false, .int .i64 0]) (by kernel_rfl) oc_nil)) rfl rfl ?_
    refine WL.do (dx_store (cs' := [.int .i64 0, .string ⟨#[]⟩, .string ⟨#[]⟩, .string ⟨#[]⟩, .string ⟨#[]⟩, .int .i64 0, .int .i64 0, .int .i64 0, .bool false, .int .i64 0]) (vs := [.int .i64 0, .string ⟨#[]⟩, .string ⟨#[]⟩, .string ⟨#[]⟩, .string ⟨#[]⟩, .int .i64 0, .int .i64 0, .int .i64 0, .bool false, .int .i64 0]) rfl ty_size_26_10 rfl rfl rfl (oc_cons rfl (oc_cons rfl (oc_cons rfl (oc_cons rfl (oc_cons rfl (oc_cons rfl (oc_cons rfl (oc_cons rfl (oc_cons rfl (oc_cons rfl oc_nil)))))))))) k8 rfl (Nat.le_of_ble_eq_true rfl) rfl) rfl ?_
    rintro _ W19 ⟨k21, o20⟩
    replace k3 := k3.other o20 n11
    clear k8
    replace h1 := h1.only o20 (.head _)
    replace hM := hM.only o20 (.head _)
    replace hB := o20.below hB l12
    replace hL := LL.only hL o20
    refine WL.val (dx_assign rfl rfl) rfl rfl ?_
    refine WL.nil ?_
    refine hK18 ?_
    refine WC.ret fun a_ ha_ => ?_
    exact hQ (cv_ret2 rfl (.agg rfl ty_agg_26_10 k21.range rfl) (.tmp rfl) (by unfold findZ; rw [if_neg (by intro h; first | (have := h.2; omega) | simp_all)]; rfl) hB ha_)
  ·
    replace c17 := bnot_f c17
    refine WC.skip ?_
    refine hK13 ?_
    refine WC.seq fun K22 hK22 => ?_
    refine WC.region ?_
    refine WL.val (dx_move rfl rfl) rfl rfl ?_
    refine WL.val (dx_func rfl rfl rfl) rfl rfl ?_
    refine WL.get (dx_cv rfl Tryz.func23 rfl rfl rfl (indexFuncZ_v xs (idP id) _ _ W16 _ hL h1 (fun W hW x hx => fv_of (cs := [.pointer (some ⟨w.heap.size, 0, none⟩)]) Tryz.func24 rfl rfl (find1_v x id _ W [] (LL.nil _) ⟨Nat.succ_pos _, w.heap.size, 0, rfl, by simp, (k3.below hW).range⟩)))) rfl rfl ?_
    rintro _ W24 ⟨rfl, b23⟩
    replace h1 := h1.below b23
    replace hM := hM.below b23
    replace k3 := k3.below b23
    replace k8 := k8.below b23
    replace hB := below_then hB b23
    replace hL := LL.below hL b23
    refine WL.val (dx_assign rfl rfl) rfl rfl ?_
    refine WL.nil ?_
    refine hK22 ?_
    refine WC.seq fun K25 hK25 => ?_
    refine WC.seq fun K26 hK26 => ?_
    refine WC.region ?_
    refine WL.val (dx_move rfl rfl) rfl rfl ?_
    refine WL.val (dx_lss rfl rfl rfl) rfl rfl ?_
    refine WL.nil ?_
    refine hK26 ?_
    refine WC.cond rfl (fun c27 => ?_) (fun c27 => ?_)
    ·
      replace c27 := of_decide_eq_true c27
      refine WC.seq fun K28 hK28 => ?_
      refine WC.region ?_
      refine WL.val (dx_build rfl rfl (built_of_O (cs := [.int .i64 0, .string ⟨#[]⟩, .string ⟨#[]⟩, .string ⟨#[]⟩, .string ⟨#[]⟩, .int .i64 0, .int .i64 0, .int .i64 0, .bool false, .int .i64 0]) (by kernel_rfl) oc_nil)) rfl rfl ?_
      refine WL.do (dx_store (cs' := [.int .i64 0, .string ⟨#[]⟩, .string ⟨#[]⟩, .string ⟨#[]⟩, .string ⟨#[]⟩, .int .i64 0, .int .i64 0, .int .i64 0, .bool false, .int .i64 0]) (vs := [.int .i64 0, .string ⟨#[]⟩, .string ⟨#[]⟩, .string ⟨#[]⟩, .string ⟨#[]⟩, .int .i64 0, .int .i64 0, .int .i64 0, .bool false, .int .i64 0]) rfl ty_size_26_10 rfl rfl rfl (oc_cons rfl (oc_cons rfl (oc_cons rfl (oc_cons rfl (oc_cons rfl (oc_cons rfl (oc_cons rfl (oc_cons rfl (oc_cons rfl (oc_cons rfl oc_nil)))))))))) k8 rfl (Nat.le_of_ble_eq_true rfl) rfl) rfl ?_
      rintro _ W29 ⟨k31, o30⟩
      replace k3 := k3.other o30 n11
      clear k8
      replace h1 := h1.only o30 (.head _)
      replace hM := hM.only o30 (.head _)
      replace hB := o30.below hB l12
      replace hL := LL.only hL o30
      refine WL.val (dx_assign rfl rfl) rfl rfl ?_
      refine WL.nil ?_
      refine hK28 ?_
      refine WC.ret fun a_ ha_ => ?_
      exact hQ (cv_ret2 rfl (.agg rfl ty_agg_26_10 k31.range rfl) (.tmp rfl) (by unfold findZ; rw [if_neg (by intro h; first | (have := h.2; omega) | simp_all)]; rfl) hB ha_)
    ·
      replace c27 := of_decide_eq_false c27
      refine WC.skip ?_
      refine hK25 ?_
      refine WC.seq fun K32 hK32 => ?_
      obtain ⟨k0, r0, hk0, hr0, hp0, hn0⟩ := idxX_is (p := idP id) xs 0 (by omega) (by omega)
      rw [Int.zero_add] at hk0
      have hl0 := (List.getElem?_eq_some_iff.1 hr0).1
      refine WC.region ?_
      refine WL.val (dx_move rfl rfl) rfl rfl ?_
      refine WL.val (dx_move rfl rfl) rfl rfl ?_
      refine WL.get (dx_idxF k0 rfl ty_slice_22 rfl rfl h1 (by omega) (at_mapX hr0)) rfl rfl ?_
      rintro u33 _ ⟨rfl, p34⟩
      refine WL.val (dx_loadPN rfl ty_agg_26_10 rfl p34 rfl) rfl rfl ?_
      refine WL.do (dx_store (cs' := [.int .i64 r0.id, .string r0.sec, .string r0.med, .string r0.whr, .string r0.tok, .int .i64 r0.att, .int .i64 r0.since, .int .i64 r0.wrong, .bool r0.shown, .int .i64 r0.sat]) (vs := [.int .i64 r0.id, .string r0.sec, .string r0.med, .string r0.whr, .string r0.tok, .int .i64 r0.att, .int .i64 r0.since, .int .i64 r0.wrong, .bool r0.shown, .int .i64 r0.sat]) rfl ty_size_26_10 rfl rfl rfl (oc_cons rfl (oc_cons rfl (oc_cons rfl (oc_cons rfl (oc_cons rfl (oc_cons rfl (oc_cons rfl (oc_cons rfl (oc_cons rfl (oc_cons rfl oc_nil)))))))))) k8 rfl (Nat.le_of_ble_eq_true rfl) rfl) rfl ?_
      rintro _ W35 ⟨k37, o36⟩
      replace k3 := k3.other o36 n11
      clear k8
      replace h1 := h1.only o36 (.head _)
      replace hM := hM.only o36 (.head _)
      replace p34 := p34.only o36 (.head _)
      replace hB := o36.below hB l12
      replace hL := LL.only hL o36
      refine WL.val (dx_assign rfl rfl) rfl rfl ?_
      refine WL.nil ?_
      refine hK32 ?_
      refine WC.ret fun a_ ha_ => ?_
      exact hQ (cv_ret2 rfl (.agg rfl ty_agg_26_10 k37.range rfl) (.tmp rfl) (by unfold findZ; rw [if_pos ⟨by assumption, by omega⟩, hk0, Int.toNat_natCast, hr0]; rfl) hB ha_)

set_option maxHeartbeats 1000000 in
theorem fnd1_v (p wt : SesX) (now : Int) (a b : Value) (w : World) (L : List Nat) (hL : LL L w) (ha : PtR L w a (encZ wt)) (hb : PtR L w b [.int .i64 now])  (hq : (0 ≤ p.since ∧ p.since ≤ 1099511627776) ∧ (0 ≤ now ∧ now ≤ 1099511627776)) : CV Tryz.prog 36 [.agg #[.int .i64 p.id, .string p.sec, .string p.med, .string p.whr, .string p.tok, .int .i64 p.att, .int .i64 p.since, .int .i64 p.wrong, .bool p.shown, .int .i64 p.sat], a, b] w fun v W => v = .bool (plP now wt p) := by
  refine cv_enter (N := 23) (f := [(0, .agg #[.int .i64 p.id, .string p.sec, .string p.med, .string p.whr, .string p.tok, .int .i64 p.att, .int .i64 p.since, .int .i64 p.wrong, .bool p.shown, .int .i64 p.sat]), (1, a), (2, b)]) Tryz.func36 rfl rfl rfl rfl fun Q hQ hE => ?_
  have hB := Below.refl w.heap.size w
  refine WC.seq fun K1 hK1 => ?_
  refine WC.region ?_
  refine WL.get (dx_box rfl rfl rfl) rfl rfl ?_
  rintro _ W2 ⟨rfl, k3, b4, z5⟩
  have l6 := hB.size
  replace ha := ha.more b4 (Nat.le_refl _)
  replace hb := hb.more b4 (Nat.le_refl _)
  replace hB := below_then hB b4
  replace hL := LL.more hL z5
  refine WL.val (dx_assign rfl rfl) rfl rfl ?_
  refine WL.nil ?_
  refine hK1 ?_
  refine WC.seq fun K7 hK7 => ?_
  refine WC.region ?_
  refine WL.val (dx_fld (o1 := 0) rfl ty_fld_26_0_0 rfl rfl) rfl rfl ?_
  refine WL.val (dx_load rfl ty_one_3 rfl (k3.cell (k := 0) rfl)) rfl rfl ?_
  refine WL.get (dx_fldP 1 rfl ty_fld_26_0_0 rfl ha (cs' := [.int .i64 wt.id]) rfl (Nat.succ_pos _)) rfl rfl ?_
  rintro u8 _ ⟨rfl, p9⟩
  refine WL.val (dx_loadP rfl ty_one_3 rfl p9) rfl rfl ?_
  refine WL.val (dx_eql rfl rfl rfl) rfl rfl ?_
  refine WL.val (dx_move rfl rfl) rfl rfl ?_
  refine WL.split 10 rfl (fun g10 => ?_) (fun g10 => ?_)
  ·
    replace g10 := of_decide_eq_true g10
    refine WL.val (dx_fld (o1 := 1) rfl ty_fld_26_1_1 rfl rfl) rfl rfl ?_
    refine WL.val (dx_load rfl ty_one_9 rfl (k3.cell (k := 1) rfl)) rfl rfl ?_
    refine WL.get (dx_fldP 1 rfl ty_fld_26_1_1 rfl ha (cs' := [.string wt.sec]) rfl (Nat.succ_pos _)) rfl rfl ?_
    rintro u11 _ ⟨rfl, p12⟩
    refine WL.val (dx_loadP rfl ty_one_9 rfl p12) rfl rfl ?_
    refine WL.val (dx_eqlT rfl rfl rfl) rfl rfl ?_
    refine WL.val (dx_pick rfl rfl rfl) rfl rfl ?_
    refine WL.val (dx_move rfl rfl) rfl rfl ?_
    refine WL.split 17 rfl (fun g13 => ?_) (fun g13 => ?_)
    ·
      replace g13 := of_decide_eq_true g13
      refine WL.val (dx_loadN rfl ty_agg_26_10 rfl k3.range rfl) rfl rfl ?_
      refine WL.val (dx_loadP rfl ty_one_3 rfl hb) rfl rfl ?_
      refine WL.get (dx_cv rfl Tryz.func28 rfl rfl rfl (over_v p now W2 [] (LL.nil _) hq)) rfl rfl ?_
      rintro _ W15 ⟨rfl, b14⟩
      replace ha := ha.below b14
      replace hb := hb.below b14
      replace p9 := p9.below b14
      replace p12 := p12.below b14
      replace k3 := k3.below b14
      replace hB := below_then hB b14
      replace hL := LL.below hL b14
      refine WL.val (dx_not rfl rfl) rfl rfl ?_
      refine WL.val (dx_pick rfl rfl rfl) rfl rfl ?_
      refine WL.val (dx_assign rfl rfl) rfl rfl ?_
      refine WL.nil ?_
      refine hK7 ?_
      refine WC.ret fun a_ ha_ => ?_
      exact hQ (cv_ret1 rfl (.tmp rfl) (by simp [plP, *]) hB ha_)
    ·
      replace g13 := of_decide_eq_false g13
      refine WL.off rfl rfl rfl ?_
      refine WL.off rfl rfl rfl ?_
      refine WL.off rfl rfl rfl ?_
      refine WL.off rfl rfl rfl ?_
      refine WL.val (dx_pick rfl rfl rfl) rfl rfl ?_
      refine WL.val (dx_assign rfl rfl) rfl rfl ?_
      refine WL.nil ?_
      refine hK7 ?_
      refine WC.ret fun a_ ha_ => ?_
      exact hQ (cv_ret1 rfl (.tmp rfl) (by simp [plP, *]) hB ha_)
  ·
    replace g10 := of_decide_eq_false g10
    refine WL.off rfl rfl rfl ?_
    refine WL.off rfl rfl rfl ?_
    refine WL.off rfl rfl rfl ?_
    refine WL.off rfl rfl rfl ?_
    refine WL.off rfl rfl rfl ?_
    refine WL.val (dx_pick rfl rfl rfl) rfl rfl ?_
    refine WL.val (dx_move rfl rfl) rfl rfl ?_
    refine WL.off rfl rfl rfl ?_
    refine WL.off rfl rfl rfl ?_
    refine WL.off rfl rfl rfl ?_
    refine WL.off rfl rfl rfl ?_
    refine WL.val (dx_pick rfl rfl rfl) rfl rfl ?_
    refine WL.val (dx_assign rfl rfl) rfl rfl ?_
    refine WL.nil ?_
    refine hK7 ?_
    refine WC.ret fun a_ ha_ => ?_
    exact hQ (cv_ret1 rfl (.tmp rfl) (by simp [plP, *]) hB ha_)

set_option maxHeartbeats 1000000 in
theorem fnd_v (xs : List SesX) (now : Int) (wt : SesX) (sv : Value) (w : World) (L : List Nat) (hL : LL L w) (h1 : RdF 10 L w sv (xs.map encZ)) (hM : MaxL L w)  (hsz : smallZ xs) : CV Tryz.prog 17 [sv, .int .i64 now, .agg #[.int .i64 wt.id, .string wt.sec, .string wt.med, .string wt.whr, .string wt.tok, .int .i64 wt.att, .int .i64 wt.since, .int .i64 wt.wrong, .bool wt.shown, .int .i64 wt.sat]] w fun v W => v = .tuple #[.int .i64 (fndA xs now wt), .int .i64 (fndE xs now wt)] := by
  refine cv_enter (N := 23) (f := [(0, sv), (1, .int .i64 now), (2, .agg #[.int .i64 wt.id, .string wt.sec, .string wt.med, .string wt.whr, .string wt.tok, .int .i64 wt.att, .int .i64 wt.since, .int .i64 wt.wrong, .bool wt.shown, .int .i64 wt.sat])]) Tryz.func17 rfl rfl rfl rfl fun Q hQ hE => ?_
  have hB := Below.refl w.heap.size w
  have h1m : xs.length ≤ maxLen := by have := h1.len; rwa [List.length_map] at this
  unfold maxLen at h1m
  refine WC.seq fun K1 hK1 => ?_
  refine WC.region ?_
  refine WL.get (dx_box (cs := [.int .i64 now]) rfl rfl rfl) rfl rfl ?_
  rintro _ W2 ⟨rfl, k3, b4, z5⟩
  have l6 := hB.size
  replace h1 := h1.more b4 (Nat.le_refl _)
  replace hM := hM.more b4 (Nat.le_refl _)
  replace hB := below_then hB b4
  replace hL := LL.more hL z5
  refine WL.get (dx_box rfl rfl rfl) rfl rfl ?_
  rintro _ W7 ⟨rfl, k8, b9, z10⟩
  have n11 : w.heap.size ≠ W2.heap.size := Nat.ne_of_lt k3.lt
  have l12 := hB.size
  replace h1 := h1.more b9 (Nat.le_refl _)
  replace hM := hM.more b9 (Nat.le_refl _)
  replace k3 := k3.below b9
  replace hB := below_then hB b9
  replace hL := LL.more hL z10
  refine WL.val (dx_assign rfl rfl) rfl rfl ?_
  refine WL.val (dx_assign rfl rfl) rfl rfl ?_
  refine WL.nil ?_
  refine hK1 ?_
  refine WC.seq fun K13 hK13 => ?_
  refine WC.seq fun K14 hK14 => ?_
  refine WC.region ?_
  refine WL.val (dx_move rfl rfl) rfl rfl ?_
  refine WL.get (dx_cv rfl Tryz.func22 rfl rfl rfl (rightZ_v xs _ W7 _ hL h1 hM hsz)) rfl rfl ?_
  rintro _ W16 ⟨rfl, b15⟩
  replace h1 := h1.below b15
  replace hM := hM.below b15
  replace k3 := k3.below b15
  replace k8 := k8.below b15
  replace hB := below_then hB b15
  replace hL := LL.below hL b15
  refine WL.val (dx_not rfl rfl) rfl rfl ?_
  refine WL.val (dx_move rfl rfl) rfl rfl ?_
  refine WL.split 12 rfl (fun g17 => ?_) (fun g17 => ?_)
  ·
    replace g17 := bnot_t g17
    refine WL.off rfl rfl rfl ?_
    refine WL.off rfl rfl rfl ?_
    refine WL.off rfl rfl rfl ?_
    refine WL.val (dx_pick rfl rfl rfl) rfl rfl ?_
    refine WL.nil ?_
    refine hK14 ?_
    refine WC.condT rfl ?_
    refine WC.seq fun K18 hK18 => ?_
    refine WC.region ?_
    refine WL.val (dx_assign rfl rfl) rfl rfl ?_
    refine WL.val (dx_assign rfl rfl) rfl rfl ?_
    refine WL.nil ?_
    refine hK18 ?_
    refine WC.ret fun a_ ha_ => ?_
    exact hQ (cv_ret2 rfl (.tmp rfl) (.tmp rfl) (by have he : fndE xs now wt = 1 := (by unfold fndE; rw [if_neg (by intro h; simp_all)]); have ha : fndA xs now wt = 0 := (by unfold fndA; rw [if_neg (by rw [he]; decide)]); rw [he, ha]) hB ha_)
  ·
    replace g17 := bnot_f g17
    refine WL.val (dx_load rfl ty_one_3 rfl (k3.cell (k := 0) rfl)) rfl rfl ?_
    refine WL.get (dx_cv rfl Tryz.func25 rfl rfl rfl (number_v now 0 W16 [] (LL.nil _))) rfl rfl ?_
    rintro _ W20 ⟨rfl, b19⟩
    replace h1 := h1.below b19
    replace hM := hM.below b19
    replace k3 := k3.below b19
    replace k8 := k8.below b19
    replace hB := below_then hB b19
    replace hL := LL.below hL b19
    refine WL.val (dx_not rfl rfl) rfl rfl ?_
    refine WL.val (dx_pick rfl rfl rfl) rfl rfl ?_
    refine WL.nil ?_
    refine hK14 ?_
    refine WC.cond rfl (fun c21 => ?_) (fun c21 => ?_)
    ·
      replace c21 := bnot_t c21
      refine WC.seq fun K22 hK22 => ?_
      refine WC.region ?_
      refine WL.val (dx_assign rfl rfl) rfl rfl ?_
      refine WL.val (dx_assign rfl rfl) rfl rfl ?_
      refine WL.nil ?_
      refine hK22 ?_
      refine WC.ret fun a_ ha_ => ?_
      exact hQ (cv_ret2 rfl (.tmp rfl) (.tmp rfl) (by have he : fndE xs now wt = 1 := (by unfold fndE; rw [if_neg (by intro h; simp_all)]); have ha : fndA xs now wt = 0 := (by unfold fndA; rw [if_neg (by rw [he]; decide)]); rw [he, ha]) hB ha_)
    ·
      replace c21 := bnot_f c21
      refine WC.skip ?_
      refine hK13 ?_
      refine WC.seq fun K23 hK23 => ?_
      have hr := (show rightZ xs = true by assumption)
      have hnw := numZ_t (show numZ now 0 = true by assumption)
      refine WC.region ?_
      refine WL.val (dx_move rfl rfl) rfl rfl ?_
      refine WL.val (dx_func rfl rfl rfl) rfl rfl ?_
      refine WL.get (dx_cv rfl Tryz.func23 rfl rfl rfl (indexFuncZ_v xs (plP now wt) _ _ W20 _ hL h1 (fun W hW x hx => fv_of (cs := [.pointer (some ⟨W2.heap.size, 0, none⟩), .pointer (some ⟨w.heap.size, 0, none⟩)]) Tryz.func36 rfl rfl (fnd1_v x wt now _ _ W [] (LL.nil _) ⟨Nat.succ_pos _, W2.heap.size, 0, rfl, by simp, (k8.below hW).range⟩ ⟨Nat.succ_pos _, w.heap.size, 0, rfl, by simp, (k3.below hW).range⟩ ⟨(goodZ_t (((rightZ_iff xs).1 hr).2.1 x hx)).2.2.1, hnw⟩)))) rfl rfl ?_
      rintro _ W25 ⟨rfl, b24⟩
      replace h1 := h1.below b24
      replace hM := hM.below b24
      replace k3 := k3.below b24
      replace k8 := k8.below b24
      replace hB := below_then hB b24
      replace hL := LL.below hL b24
      refine WL.val (dx_assign rfl rfl) rfl rfl ?_
      refine WL.nil ?_
      refine hK23 ?_
      refine WC.seq fun K26 hK26 => ?_
      refine WC.seq fun K27 hK27 => ?_
      refine WC.region ?_
      refine WL.val (dx_move rfl rfl) rfl rfl ?_
      refine WL.val (dx_lss rfl rfl rfl) rfl rfl ?_
      refine WL.nil ?_
      refine hK27 ?_
      refine WC.cond rfl (fun c28 => ?_) (fun c28 => ?_)
      ·
        replace c28 := of_decide_eq_true c28
        refine WC.seq fun K29 hK29 => ?_
        refine WC.region ?_
        refine WL.val (dx_assign rfl rfl) rfl rfl ?_
        refine WL.val (dx_assign rfl rfl) rfl rfl ?_
        refine WL.nil ?_
        refine hK29 ?_
        refine WC.ret fun a_ ha_ => ?_
        exact hQ (cv_ret2 rfl (.tmp rfl) (.tmp rfl) (by have he : fndE xs now wt = 11 := (by unfold fndE; rw [if_pos ⟨hr, by assumption⟩, if_pos (by assumption)]); have ha : fndA xs now wt = 0 := (by unfold fndA; rw [if_neg (by rw [he]; decide)]); rw [he, ha]) hB ha_)
      ·
        replace c28 := of_decide_eq_false c28
        refine WC.skip ?_
        refine hK26 ?_
        refine WC.seq fun K30 hK30 => ?_
        refine WC.region ?_
        refine WL.val (dx_move rfl rfl) rfl rfl ?_
        refine WL.val (dx_assign rfl rfl) rfl rfl ?_
        refine WL.val (dx_assign rfl rfl) rfl rfl ?_
        refine WL.nil ?_
        refine hK30 ?_
        refine WC.ret fun a_ ha_ => ?_
        exact hQ (cv_ret2 rfl (.tmp rfl) (.tmp rfl) (by have he : fndE xs now wt = 0 := (by unfold fndE; rw [if_pos ⟨hr, by assumption⟩, if_neg (by assumption)]); have ha : fndA xs now wt = plAt xs now wt := (by unfold fndA; rw [if_pos he]); rw [he, ha]) hB ha_)

set_option maxHeartbeats 1000000 in
theorem shown_v (xs : List SesX) (now : Int) (wt : SesX) (sv : Value) (w : World) (L : List Nat) (hL : LL L w) (h1 : RdF 10 L w sv (xs.map encZ)) (hM : MaxL L w)  (hsz : smallZ xs) : CV Tryz.prog 8 [sv, .int .i64 now, .agg #[.int .i64 wt.id, .string wt.sec, .string wt.med, .string wt.whr, .string wt.tok, .int .i64 wt.att, .int .i64 wt.since, .int .i64 wt.wrong, .bool wt.shown, .int .i64 wt.sat]] w fun v W => v = .tuple #[.agg #[.string (shM xs now wt), .string (shW xs now wt)], .int .i64 (shE xs now wt)] := by
  refine cv_enter (N := 33) (f := [(0, sv), (1, .int .i64 now), (2, .agg #[.int .i64 wt.id, .string wt.sec, .string wt.med, .string wt.whr, .string wt.tok, .int .i64 wt.att, .int .i64 wt.since, .int .i64 wt.wrong, .bool wt.shown, .int .i64 wt.sat])]) Tryz.func8 rfl rfl rfl rfl fun Q hQ hE => ?_
  have hB := Below.refl w.heap.size w
  have h1m : xs.length ≤ maxLen := by have := h1.len; rwa [List.length_map] at this
  unfold maxLen at h1m
  refine WC.seq fun K1 hK1 => ?_
  refine WC.region ?_
  refine WL.get (dx_box rfl rfl rfl) rfl rfl ?_
  rintro _ W2 ⟨rfl, k3, b4, z5⟩
  have l6 := hB.size
  replace h1 := h1.more b4 (Nat.le_refl _)
  replace hM := hM.more b4 (Nat.le_refl _)
  replace hB := below_then hB b4
  replace hL := LL.more hL z5
  refine WL.get (dx_alloc rfl ty_zero_24 rfl) rfl rfl ?_
  rintro _ W7 ⟨rfl, k8, b9, z10⟩
  have n11 : w.heap.size ≠ W2.heap.size := Nat.ne_of_lt k3.lt
  have l12 := hB.size
  replace h1 := h1.more b9 (Nat.le_refl _)
  replace hM := hM.more b9 (Nat.le_refl _)
  replace k3 := k3.below b9
  replace hB := below_then hB b9
  replace hL := LL.more hL z10
  refine WL.val (dx_assign rfl rfl) rfl rfl ?_
  refine WL.nil ?_
  refine hK1 ?_
  refine WC.seq fun K13 hK13 => ?_
  refine WC.region ?_
  refine WL.val (dx_move rfl rfl) rfl rfl ?_
  refine WL.val (dx_move rfl rfl) rfl rfl ?_
  refine WL.val (dx_loadN rfl ty_agg_26_10 rfl k3.range rfl) rfl rfl ?_
  refine WL.get (dx_cv rfl Tryz.func17 rfl rfl rfl (fnd_v xs now wt _ W7 _ hL h1 hM hsz)) rfl rfl ?_
  rintro _ W15 ⟨rfl, b14⟩
  replace h1 := h1.below b14
  replace hM := hM.below b14
  replace k3 := k3.below b14
  replace k8 := k8.below b14
  replace hB := below_then hB b14
  replace hL := LL.below hL b14
  refine WL.val (dx_move rfl rfl) rfl rfl ?_
  refine WL.val (dx_extract rfl rfl rfl) rfl rfl ?_
  refine WL.val (dx_extract rfl rfl rfl) rfl rfl ?_
  refine WL.val (dx_assign rfl rfl) rfl rfl ?_
  refine WL.val (dx_assign rfl rfl) rfl rfl ?_
  refine WL.nil ?_
  refine hK13 ?_
  refine WC.seq fun K16 hK16 => ?_
  refine WC.seq fun K17 hK17 => ?_
  refine WC.region ?_
  refine WL.val (dx_move rfl rfl) rfl rfl ?_
  refine WL.val (dx_neq rfl rfl rfl) rfl rfl ?_
  refine WL.nil ?_
  refine hK17 ?_
  refine WC.cond rfl (fun c18 => ?_) (fun c18 => ?_)
  ·
    replace c18 := bnot_t c18
    replace c18 := of_decide_eq_false c18
    refine WC.seq fun K19 hK19 => ?_
    refine WC.region ?_
    refine WL.val (dx_build rfl rfl (built_of_O (cs := [.string ⟨#[]⟩, .string ⟨#[]⟩]) (by kernel_rfl) oc_nil)) rfl rfl ?_
    refine WL.val (dx_move rfl rfl) rfl rfl ?_
    refine WL.do (dx_store (cs' := [.string ⟨#[]⟩, .string ⟨#[]⟩]) (vs := [.string ⟨#[]⟩, .string ⟨#[]⟩]) rfl ty_size_24_2 rfl rfl rfl (oc_cons rfl (oc_cons rfl oc_nil)) k8 rfl (Nat.le_of_ble_eq_true rfl) rfl) rfl ?_
    rintro _ W20 ⟨k22, o21⟩
    replace k3 := k3.other o21 n11
    clear k8
    replace h1 := h1.only o21 (.head _)
    replace hM := hM.only o21 (.head _)
    replace hB := o21.below hB l12
    replace hL := LL.only hL o21
    refine WL.val (dx_assign rfl rfl) rfl rfl ?_
    refine WL.nil ?_
    refine hK19 ?_
    refine WC.ret fun a_ ha_ => ?_
    exact hQ (cv_ret2 rfl (.agg rfl ty_agg_24_2 k22.range rfl) (.tmp rfl) (by have he : shE xs now wt = fndE xs now wt := (by unfold shE; rw [if_neg (by assumption)]); have h2 : shM xs now wt = ⟨#[]⟩ := (by unfold shM; rw [if_neg (by rw [he]; assumption)]); have h3 : shW xs now wt = ⟨#[]⟩ := (by unfold shW; rw [if_neg (by rw [he]; assumption)]); rw [he, h2, h3] <;> rfl) hB ha_)
  ·
    replace c18 := bnot_f c18
    replace c18 := of_decide_eq_true c18
    refine WC.skip ?_
    refine hK16 ?_
    refine WC.seq fun K23 hK23 => ?_
    refine WC.seq fun K24 hK24 => ?_
    obtain ⟨hr, hnw, k0, hk0, hpl, hx0⟩ := fnd_ok (by first | assumption | exact Classical.not_not.1 (by assumption))
    obtain ⟨r0, hz⟩ : ∃ r, r = fndZ xs now wt := ⟨_, rfl⟩
    rw [← hz] at hx0
    have hl0 := (List.getElem?_eq_some_iff.1 hx0).1
    have hrl := rightZ_len hr
    have hgd := goodZ_t (rightZ_good hr hx0)
    refine WC.region ?_
    refine WL.val (dx_move rfl rfl) rfl rfl ?_
    refine WL.val (dx_move rfl rfl) rfl rfl ?_
    refine WL.get (dx_idxF k0 rfl ty_slice_22 rfl rfl h1 (by omega) (at_mapX hx0)) rfl rfl ?_
    rintro u25 _ ⟨rfl, p26⟩
    refine WL.get (dx_fldP 1 rfl ty_fld_26_7_8 rfl p26 (cs' := [.bool r0.shown]) rfl (Nat.succ_pos _)) rfl rfl ?_
    rintro u27 _ ⟨rfl, p28⟩
    refine WL.val (dx_loadP rfl ty_one_4 rfl p28) rfl rfl ?_
    refine WL.val (dx_not rfl rfl) rfl rfl ?_
    refine WL.nil ?_
    refine hK24 ?_
    refine WC.cond rfl (fun c29 => ?_) (fun c29 => ?_)
    ·
      replace c29 := bnot_t c29
      refine WC.seq fun K30 hK30 => ?_
      refine WC.region ?_
      refine WL.val (dx_build rfl rfl (built_of_O (cs := [.string ⟨#[]⟩, .string ⟨#[]⟩]) (by kernel_rfl) oc_nil)) rfl rfl ?_
      refine WL.do (dx_store (cs' := [.string ⟨#[]⟩, .string ⟨#[]⟩]) (vs := [.string ⟨#[]⟩, .string ⟨#[]⟩]) rfl ty_size_24_2 rfl rfl rfl (oc_cons rfl (oc_cons rfl oc_nil)) k8 rfl (Nat.le_of_ble_eq_true rfl) rfl) rfl ?_
      rintro _ W31 ⟨k33, o32⟩
      replace k3 := k3.other o32 n11
      clear k8
      replace h1 := h1.only o32 (.head _)
      replace hM := hM.only o32 (.head _)
      replace hB := o32.below hB l12
      replace hL := LL.only hL o32
      refine WL.val (dx_assign rfl rfl) rfl rfl ?_
      refine WL.nil ?_
      refine hK30 ?_
      refine WC.ret fun a_ ha_ => ?_
      exact hQ (cv_ret2 rfl (.agg rfl ty_agg_24_2 k33.range rfl) (.tmp rfl) (by have he : shE xs now wt = 14 := (by unfold shE; rw [if_pos (show fndE xs now wt = 0 by first | assumption | exact Classical.not_not.1 (by assumption)), ← hz, if_neg (by first | assumption | simp_all)]); have h2 : shM xs now wt = ⟨#[]⟩ := (by unfold shM; rw [if_neg (by rw [he]; decide)]); have h3 : shW xs now wt = ⟨#[]⟩ := (by unfold shW; rw [if_neg (by rw [he]; decide)]); rw [he, h2, h3] <;> rfl) hB ha_)
    ·
      replace c29 := bnot_f c29
      refine WC.skip ?_
      refine hK23 ?_
      refine WC.seq fun K34 hK34 => ?_
      refine WC.region ?_
      refine WL.val (dx_move rfl rfl) rfl rfl ?_
      refine WL.val (dx_move rfl rfl) rfl rfl ?_
      refine WL.get (dx_idxF k0 rfl ty_slice_22 rfl rfl h1 (by omega) (at_mapX hx0)) rfl rfl ?_
      rintro u35 _ ⟨rfl, p36⟩
      refine WL.get (dx_fldP 2 rfl ty_fld_26_2_2 rfl p36 (cs' := [.string r0.med, .string r0.whr]) rfl (Nat.succ_pos _)) rfl rfl ?_
      rintro u37 _ ⟨rfl, p38⟩
      refine WL.val (dx_loadPN rfl ty_agg_24_2 rfl p38 rfl) rfl rfl ?_
      refine WL.do (dx_store (cs' := [.string r0.med, .string r0.whr]) (vs := [.string r0.med, .string r0.whr]) rfl ty_size_24_2 rfl rfl rfl (oc_cons rfl (oc_cons rfl oc_nil)) k8 rfl (Nat.le_of_ble_eq_true rfl) rfl) rfl ?_
      rintro _ W39 ⟨k41, o40⟩
      replace k3 := k3.other o40 n11
      clear k8
      replace h1 := h1.only o40 (.head _)
      replace hM := hM.only o40 (.head _)
      replace p36 := p36.only o40 (.head _)
      replace p38 := p38.only o40 (.head _)
      replace hB := o40.below hB l12
      replace hL := LL.only hL o40
      refine WL.val (dx_assign rfl rfl) rfl rfl ?_
      refine WL.nil ?_
      refine hK34 ?_
      refine WC.ret fun a_ ha_ => ?_
      exact hQ (cv_ret2 rfl (.agg rfl ty_agg_24_2 k41.range rfl) (.tmp rfl) (by have he : shE xs now wt = 0 := (by unfold shE; rw [if_pos (show fndE xs now wt = 0 by first | assumption | exact Classical.not_not.1 (by assumption)), ← hz, if_pos (by first | assumption | simp_all)]); have h2 : shM xs now wt = r0.med := (by unfold shM; rw [if_pos he, ← hz]); have h3 : shW xs now wt = r0.whr := (by unfold shW; rw [if_pos he, ← hz]); rw [he, h2, h3]) hB ha_)

theorem set_same {α : Type} {xs : List α} {k : Nat} {a : α} (h : xs[k]? = some a) : xs.set k a = xs := by
  obtain ⟨hk, rfl⟩ := List.getElem?_eq_some_iff.1 h
  exact List.set_getElem_self hk
theorem fnd_no {xs : List SesX} {now : Int} {w : SesX} (h : ¬ fndE xs now w = 0) : ¬ (fndE xs now w = 0 ∨ fndE xs now w = 12) := by
  rintro (h' | h')
  · exact h h'
  · unfold fndE at h'
    split at h'
    · split at h' <;> cases h'
    · cases h'
set_option maxHeartbeats 1000000 in
theorem submit_v (xs : List SesX) (now : Int) (wt : SesX) (sv : Value) (w : World) (L : List Nat) (hL : LL L w) (h1 : RdF 10 L w sv (xs.map encZ)) (hM : MaxL L w)  (hsz : smallZ xs) : CV Tryz.prog 6 [sv, .int .i64 now, .agg #[.int .i64 wt.id, .string wt.sec, .string wt.med, .string wt.whr, .string wt.tok, .int .i64 wt.att, .int .i64 wt.since, .int .i64 wt.wrong, .bool wt.shown, .int .i64 wt.sat]] w fun v W => ∃ s2, v = .tuple #[s2, .int .i64 (subE xs now wt)] ∧ RdF 10 L W s2 ((subL xs now wt).map encZ) := by
  refine cv_enter (N := 63) (f := [(0, sv), (1, .int .i64 now), (2, .agg #[.int .i64 wt.id, .string wt.sec, .string wt.med, .string wt.whr, .string wt.tok, .int .i64 wt.att, .int .i64 wt.since, .int .i64 wt.wrong, .bool wt.shown, .int .i64 wt.sat])]) Tryz.func6 rfl rfl rfl rfl fun Q hQ hE => ?_
  have hB := Below.refl w.heap.size w
  have hL0 := hL
  have h1m : xs.length ≤ maxLen := by have := h1.len; rwa [List.length_map] at this
  unfold maxLen at h1m
  refine WC.seq fun K1 hK1 => ?_
  refine WC.region ?_
  refine WL.get (dx_box rfl rfl rfl) rfl rfl ?_
  rintro _ W2 ⟨rfl, k3, b4, z5⟩
  have l6 := hB.size
  replace h1 := h1.more b4 (Nat.le_refl _)
  replace hM := hM.more b4 (Nat.le_refl _)
  replace hB := below_then hB b4
  replace hL := LL.more hL z5
  refine WL.val (dx_assign rfl rfl) rfl rfl ?_
  refine WL.val (dx_assign rfl rfl) rfl rfl ?_
  refine WL.nil ?_
  refine hK1 ?_
  refine WC.seq fun K7 hK7 => ?_
  refine WC.region ?_
  refine WL.val (dx_move rfl rfl) rfl rfl ?_
  refine WL.val (dx_move rfl rfl) rfl rfl ?_
  refine WL.val (dx_loadN rfl ty_agg_26_10 rfl k3.range rfl) rfl rfl ?_
  refine WL.get (dx_cv rfl Tryz.func17 rfl rfl rfl (fnd_v xs now wt _ W2 _ hL h1 hM hsz)) rfl rfl ?_
  rintro _ W9 ⟨rfl, b8⟩
  replace h1 := h1.below b8
  replace hM := hM.below b8
  replace k3 := k3.below b8
  replace hB := below_then hB b8
  replace hL := LL.below hL b8
  refine WL.val (dx_move rfl rfl) rfl rfl ?_
  refine WL.val (dx_extract rfl rfl rfl) rfl rfl ?_
  refine WL.val (dx_extract rfl rfl rfl) rfl rfl ?_
  refine WL.val (dx_assign rfl rfl) rfl rfl ?_
  refine WL.val (dx_assign rfl rfl) rfl rfl ?_
  refine WL.nil ?_
  refine hK7 ?_
  refine WC.seq fun K10 hK10 => ?_
  refine WC.seq fun K11 hK11 => ?_
  refine WC.region ?_
  refine WL.val (dx_move rfl rfl) rfl rfl ?_
  refine WL.val (dx_neq rfl rfl rfl) rfl rfl ?_
  refine WL.nil ?_
  refine hK11 ?_
  refine WC.cond rfl (fun c12 => ?_) (fun c12 => ?_)
  ·
    replace c12 := bnot_t c12
    replace c12 := of_decide_eq_false c12
    refine WC.seq fun K13 hK13 => ?_
    refine WC.region ?_
    refine WL.val (dx_move rfl rfl) rfl rfl ?_
    refine WL.val (dx_move rfl rfl) rfl rfl ?_
    refine WL.val (dx_assign rfl rfl) rfl rfl ?_
    refine WL.val (dx_assign rfl rfl) rfl rfl ?_
    refine WL.nil ?_
    refine hK13 ?_
    refine WC.ret fun a_ ha_ => ?_
    exact hQ (cv_ret2 rfl (.tmp rfl) (.tmp rfl) (by have he : subE xs now wt = fndE xs now wt := (by unfold subE; rw [if_neg (by assumption)]); have hs : subL xs now wt = xs := (by unfold subL; rw [if_neg (by rw [he]; exact fnd_no (by assumption))]); rw [he, hs]; exact ⟨_, rfl, (h1.less (fun x hx => (.tail _ hx)))⟩) hB ha_)
  ·
    replace c12 := bnot_f c12
    replace c12 := of_decide_eq_true c12
    refine WC.skip ?_
    refine hK10 ?_
    refine WC.seq fun K14 hK14 => ?_
    refine WC.seq fun K15 hK15 => ?_
    obtain ⟨hr, hnw, k0, hk0, hpl, hx0⟩ := fnd_ok (by first | assumption | exact Classical.not_not.1 (by assumption))
    obtain ⟨r0, hz⟩ : ∃ r, r = fndZ xs now wt := ⟨_, rfl⟩
    rw [← hz] at hx0
    have hl0 := (List.getElem?_eq_some_iff.1 hx0).1
    have hrl := rightZ_len hr
    have hgd := goodZ_t (rightZ_good hr hx0)
    refine WC.region ?_
    refine WL.val (dx_move rfl rfl) rfl rfl ?_
    refine WL.val (dx_move rfl rfl) rfl rfl ?_
    refine WL.get (dx_idxF k0 rfl ty_slice_22 rfl rfl h1 (by omega) (at_mapX hx0)) rfl rfl ?_
    rintro u16 _ ⟨rfl, p17⟩
    refine WL.get (dx_fldP 1 rfl ty_fld_26_6_7 rfl p17 (cs' := [.int .i64 r0.wrong]) rfl (Nat.succ_pos _)) rfl rfl ?_
    rintro u18 _ ⟨rfl, p19⟩
    refine WL.val (dx_loadP rfl ty_one_3 rfl p19) rfl rfl ?_
    refine WL.val (dx_eql rfl rfl rfl) rfl rfl ?_
    refine WL.nil ?_
    refine hK15 ?_
    refine WC.cond rfl (fun c20 => ?_) (fun c20 => ?_)
    ·
      replace c20 := of_decide_eq_true c20
      refine WC.seq fun K21 hK21 => ?_
      refine WC.region ?_
      refine WL.val (dx_move rfl rfl) rfl rfl ?_
      refine WL.val (dx_assign rfl rfl) rfl rfl ?_
      refine WL.val (dx_assign rfl rfl) rfl rfl ?_
      refine WL.nil ?_
      refine hK21 ?_
      refine WC.ret fun a_ ha_ => ?_
      exact hQ (cv_ret2 rfl (.tmp rfl) (.tmp rfl) (by have he : subE xs now wt = 16 := (by unfold subE; rw [if_pos (show fndE xs now wt = 0 by first | assumption | exact Classical.not_not.1 (by assumption)), ← hz, if_pos (by assumption)]); have hs : subL xs now wt = xs := (by unfold subL; rw [if_neg (by rw [he]; decide)]); rw [he, hs]; exact ⟨_, rfl, (h1.less (fun x hx => (.tail _ hx)))⟩) hB ha_)
    ·
      replace c20 := of_decide_eq_false c20
      refine WC.skip ?_
      refine hK14 ?_
      refine WC.seq fun K22 hK22 => ?_
      refine WC.region ?_
      refine WL.val (dx_move rfl rfl) rfl rfl ?_
      refine WL.get (dx_cv rfl Tryz.func18 rfl rfl rfl (cloneSSession_v _ _ W9 _ hL h1 (oc_rowsX oc_Z xs) (by rw [List.length_map]; omega))) rfl rfl ?_
      rintro u23 W24 ⟨p25, b26⟩
      obtain ⟨B27, q28, k29⟩ := p25.own (fun e => by have := congrArg List.length e; rw [List.length_map, List.length_nil] at this; omega)
      have n30 : w.heap.size ≠ B27 := Nat.ne_of_lt (Nat.lt_of_lt_of_le k3.lt q28)
      have l31 := Nat.le_trans hB.size q28
      replace h1 := h1.more b26 q28
      replace hM := hM.more b26 q28
      replace k3 := k3.below b26
      replace hB := below_then hB b26
      replace hL := LL.cons (LL.below hL b26) k29.lt
      refine WL.val (dx_assign rfl rfl) rfl rfl ?_
      refine WL.nil ?_
      refine hK22 ?_
      refine WC.seq fun K32 hK32 => ?_
      refine WC.region ?_
      refine WL.val (dx_move rfl rfl) rfl rfl ?_
      refine WL.val (dx_move rfl rfl) rfl rfl ?_
      refine WL.val (dx_idxO k0 rfl ty_slice_22 rfl rfl k29 (by omega) (by rw [List.length_map]; omega) rfl) rfl rfl ?_
      refine WL.val (dx_assign rfl rfl) rfl rfl ?_
      refine WL.nil ?_
      refine hK32 ?_
      refine WC.seq fun K33 hK33 => ?_
      refine WC.seq fun K34 hK34 => ?_
      refine WC.drawM 6 [(some 35, .is (.pointer (some ⟨B27, k0 * 10, none⟩))), (some 36, .is (.pointer (some ⟨B27, k0 * 10, none⟩))), (some 37, .is (.pointer (some ⟨B27, k0 * 10 + 4, none⟩))), (some 38, .is (.string r0.tok)), (some 39, .is (.pointer (some ⟨w.heap.size, 4, none⟩))), (some 40, .is (.string wt.tok))] [[], [0], [1], [2], [], [4]] (by kernel_rfl) (by kernel_rfl) (by kernel_rfl) (by kernel_rfl) (by kernel_rfl) (by kernel_rfl) (by kernel_rfl) (by exact trivial) ?_ ?_
      ·
        refine DSteps.cons (fun Wd hd => ?_) ?_
        ·
          exact DV.dr (dx_move rfl rfl) ⟨Below.refl _ _, rfl⟩
        refine DSteps.cons (fun Wd hd => ?_) ?_
        ·
          exact DV.dr (dx_nilCheck rfl rfl) ⟨Below.refl _ _, rfl⟩
        refine DSteps.cons (fun Wd hd => ?_) ?_
        ·
          exact DV.dr (dx_fld (o1 := k0 * 10 + 4) rfl ty_fld_26_3_4 rfl rfl) ⟨Below.refl _ _, rfl⟩
        refine DSteps.cons (fun Wd hd => ?_) ?_
        ·
          have k29 := k29.below hd
          exact DV.dr (dx_load rfl ty_one_9 rfl (k29.cellF (k := k0) (j := 4) (at_mapX hx0) rfl rfl)) ⟨Below.refl _ _, rfl⟩
        refine DSteps.cons (fun Wd hd => ?_) ?_
        ·
          exact DV.dr (dx_fld (o1 := 4) rfl ty_fld_26_3_4 rfl rfl) ⟨Below.refl _ _, rfl⟩
        refine DSteps.cons (fun Wd hd => ?_) ?_
        ·
          have k3 := k3.below hd
          exact DV.dr (dx_load rfl ty_one_9 rfl (k3.cell (k := 4) rfl)) ⟨Below.refl _ _, rfl⟩
        exact trivial
      ·
        intro W35 b36
        replace h1 := h1.below b36
        replace hM := hM.below b36
        replace k3 := k3.below b36
        replace k29 := k29.below b36
        replace hB := below_then hB b36
        replace hL := LL.below hL b36
        refine WL.val (dx_neqT rfl rfl rfl) rfl rfl ?_
        refine WL.nil ?_
        refine hK34 ?_
        refine WC.cond rfl (fun c37 => ?_) (fun c37 => ?_)
        ·
          replace c37 := bnot_t c37
          replace c37 := of_decide_eq_false c37
          refine WC.seq fun K38 hK38 => ?_
          refine WC.region ?_
          refine WL.val (dx_move rfl rfl) rfl rfl ?_
          refine WL.val (dx_nilCheck rfl rfl) rfl rfl ?_
          refine WL.val (dx_fld (o1 := k0 * 10 + 7) rfl ty_fld_26_6_7 rfl rfl) rfl rfl ?_
          refine WL.val (dx_load rfl ty_one_3 rfl (k29.cellF (k := k0) (j := 7) (at_mapX hx0) rfl rfl)) rfl rfl ?_
          refine WL.val (dx_add (r := r0.wrong + 1) rfl rfl rfl (wrap64_id (by omega))) rfl rfl ?_
          refine WL.val (dx_nilCheck rfl rfl) rfl rfl ?_
          refine WL.val (dx_fld (o1 := k0 * 10 + 7) rfl ty_fld_26_6_7 rfl rfl) rfl rfl ?_
          refine WL.do (dx_storeF (k := k0) (j := 7) (r := encZ r0) rfl ty_size_3_1 rfl rfl rfl rfl k29 rfl (at_mapX hx0) (by decide)) rfl ?_
          rintro _ W39 ⟨k41, o40⟩
          replace k3 := k3.other o40 n30
          clear k29
          replace h1 := h1.only o40 (.head _)
          replace hM := hM.only o40 (.head _)
          replace hB := o40.below hB l31
          replace hL := LL.only hL o40
          rw [show (xs.map encZ).set k0 ((encZ r0).set 7 (.int .i64 (r0.wrong + 1))) = (xs.set k0 { r0 with wrong := r0.wrong + 1 }).map encZ from (List.map_set (f := encZ) (l := xs) (i := k0) (a := { r0 with wrong := r0.wrong + 1 })).symm] at k41
          obtain ⟨r1, hr1⟩ : ∃ r : SesX, r = { r0 with wrong := r0.wrong + 1 } := ⟨_, rfl⟩
          rw [← hr1] at k41
          have hxr1 : (xs.set k0 r1)[k0]? = some r1 := List.getElem?_set_self (by first | exact hl0 | (rw [List.length_set]; exact hl0))
          refine WL.nil ?_
          refine hK38 ?_
          refine WC.seq fun K42 hK42 => ?_
          refine WC.region ?_
          refine WL.val (dx_move rfl rfl) rfl rfl ?_
          refine WL.val (dx_assign rfl rfl) rfl rfl ?_
          refine WL.val (dx_assign rfl rfl) rfl rfl ?_
          refine WL.nil ?_
          refine hK42 ?_
          refine WC.ret fun a_ ha_ => ?_
          exact hQ (cv_ret2 rfl (.tmp rfl) (.tmp rfl) (by have he : subE xs now wt = 12 := (by unfold subE; rw [if_pos (show fndE xs now wt = 0 by first | assumption | exact Classical.not_not.1 (by assumption)), ← hz, if_neg (by assumption), if_neg (by assumption)]); have hh : hitS r0 now wt = r1 := (by unfold hitS; rw [if_neg (by assumption), hr1]); have hs : subL xs now wt = xs.set k0 (hitS r0 now wt) := (by unfold subL; rw [if_pos (by rw [he]; decide), hk0, Int.toNat_natCast, ← hz]); have hq := k41; rw [he, hs, hh]; exact ⟨_, rfl, hq.notin hL0 l31⟩) hB ha_)
        ·
          replace c37 := bnot_f c37
          replace c37 := of_decide_eq_true c37
          refine WC.skip ?_
          refine hK33 ?_
          refine WC.seq fun K43 hK43 => ?_
          refine WC.seq fun K44 hK44 => ?_
          refine WC.region ?_
          refine WL.val (dx_move rfl rfl) rfl rfl ?_
          refine WL.val (dx_nilCheck rfl rfl) rfl rfl ?_
          refine WL.val (dx_fld (o1 := k0 * 10 + 8) rfl ty_fld_26_7_8 rfl rfl) rfl rfl ?_
          refine WL.val (dx_load rfl ty_one_4 rfl (k29.cellF (k := k0) (j := 8) (at_mapX hx0) rfl rfl)) rfl rfl ?_
          refine WL.val (dx_not rfl rfl) rfl rfl ?_
          refine WL.nil ?_
          refine hK44 ?_
          refine WC.cond rfl (fun c45 => ?_) (fun c45 => ?_)
          ·
            replace c45 := bnot_t c45
            refine WC.region ?_
            refine WL.val (dx_move rfl rfl) rfl rfl ?_
            refine WL.val (dx_move rfl rfl) rfl rfl ?_
            refine WL.val (dx_move rfl rfl) rfl rfl ?_
            refine WL.val (dx_nilCheck rfl rfl) rfl rfl ?_
            refine WL.val (dx_fld (o1 := k0 * 10 + 8) rfl ty_fld_26_7_8 rfl rfl) rfl rfl ?_
            refine WL.do (dx_storeF (k := k0) (j := 8) (r := encZ r0) rfl ty_size_4_1 rfl rfl rfl rfl k29 rfl (at_mapX hx0) (by decide)) rfl ?_
            rintro _ W46 ⟨k48, o47⟩
            replace k3 := k3.other o47 n30
            clear k29
            replace h1 := h1.only o47 (.head _)
            replace hM := hM.only o47 (.head _)
            replace hB := o47.below hB l31
            replace hL := LL.only hL o47
            rw [show (xs.map encZ).set k0 ((encZ r0).set 8 (.bool true)) = (xs.set k0 { r0 with shown := true }).map encZ from (List.map_set (f := encZ) (l := xs) (i := k0) (a := { r0 with shown := true })).symm] at k48
            obtain ⟨r1, hr1⟩ : ∃ r : SesX, r = { r0 with shown := true } := ⟨_, rfl⟩
            rw [← hr1] at k48
            have hxr1 : (xs.set k0 r1)[k0]? = some r1 := List.getElem?_set_self (by first | exact hl0 | (rw [List.length_set]; exact hl0))
            refine WL.val (dx_nilCheck rfl rfl) rfl rfl ?_
            refine WL.val (dx_fld (o1 := k0 * 10 + 9) rfl ty_fld_26_8_9 rfl rfl) rfl rfl ?_
            refine WL.do (dx_storeF (k := k0) (j := 9) (r := encZ r1) rfl ty_size_3_1 rfl rfl rfl rfl k48 rfl (at_mapX hxr1) (by decide)) rfl ?_
            rintro _ W49 ⟨k51, o50⟩
            replace k3 := k3.other o50 n30
            clear k48
            replace h1 := h1.only o50 (.head _)
            replace hM := hM.only o50 (.head _)
            replace hB := o50.below hB l31
            replace hL := LL.only hL o50
            rw [show ((xs.set k0 r1).map encZ).set k0 ((encZ r1).set 9 (.int .i64 now)) = ((xs.set k0 r1).set k0 { r1 with sat := now }).map encZ from (List.map_set (f := encZ) (l := (xs.set k0 r1)) (i := k0) (a := { r1 with sat := now })).symm] at k51
            obtain ⟨r2, hr2⟩ : ∃ r : SesX, r = { r1 with sat := now } := ⟨_, rfl⟩
            rw [← hr2] at k51
            have hxr2 : ((xs.set k0 r1).set k0 r2)[k0]? = some r2 := List.getElem?_set_self (by first | exact hl0 | (rw [List.length_set]; exact hl0))
            refine WL.nil ?_
            refine hK43 ?_
            refine WC.seq fun K52 hK52 => ?_
            refine WC.region ?_
            refine WL.val (dx_move rfl rfl) rfl rfl ?_
            refine WL.val (dx_assign rfl rfl) rfl rfl ?_
            refine WL.val (dx_assign rfl rfl) rfl rfl ?_
            refine WL.nil ?_
            refine hK52 ?_
            refine WC.ret fun a_ ha_ => ?_
            exact hQ (cv_ret2 rfl (.tmp rfl) (.tmp rfl) (by have he : subE xs now wt = 0 := (by unfold subE; rw [if_pos (show fndE xs now wt = 0 by first | assumption | exact Classical.not_not.1 (by assumption)), ← hz, if_neg (by assumption), if_pos (show r0.tok = wt.tok by first | assumption | exact Classical.not_not.1 (by assumption))]); have hh : hitS r0 now wt = r2 := (by unfold hitS; rw [if_pos (show r0.tok = wt.tok by first | assumption | exact Classical.not_not.1 (by assumption)), if_neg (by first | assumption | simp_all), hr2, hr1]); have hs : subL xs now wt = xs.set k0 (hitS r0 now wt) := (by unfold subL; rw [if_pos (by rw [he]; decide), hk0, Int.toNat_natCast, ← hz]); have hq := k51; rw [List.set_set] at hq; rw [he, hs, hh]; exact ⟨_, rfl, hq.notin hL0 l31⟩) hB ha_)
          ·
            replace c45 := bnot_f c45
            refine WC.skip ?_
            refine hK43 ?_
            refine WC.seq fun K53 hK53 => ?_
            refine WC.region ?_
            refine WL.val (dx_move rfl rfl) rfl rfl ?_
            refine WL.val (dx_assign rfl rfl) rfl rfl ?_
            refine WL.val (dx_assign rfl rfl) rfl rfl ?_
            refine WL.nil ?_
            refine hK53 ?_
            refine WC.ret fun a_ ha_ => ?_
            exact hQ (cv_ret2 rfl (.tmp rfl) (.tmp rfl) (by have he : subE xs now wt = 0 := (by unfold subE; rw [if_pos (show fndE xs now wt = 0 by first | assumption | exact Classical.not_not.1 (by assumption)), ← hz, if_neg (by assumption), if_pos (show r0.tok = wt.tok by first | assumption | exact Classical.not_not.1 (by assumption))]); have hh : hitS r0 now wt = r0 := (by unfold hitS; rw [if_pos (show r0.tok = wt.tok by first | assumption | exact Classical.not_not.1 (by assumption)), if_pos (by first | assumption | simp_all)]); have hs : subL xs now wt = xs.set k0 (hitS r0 now wt) := (by unfold subL; rw [if_pos (by rw [he]; decide), hk0, Int.toNat_natCast, ← hz]); have hq := k29; rw [← set_same hx0] at hq; rw [he, hs, hh]; exact ⟨_, rfl, hq.notin hL0 l31⟩) hB ha_)

end Go.Proofs.YthllidchoodofaaGreatDoor
namespace Go.Proofs.YthllidchoodofaaGreatDoor
open Go.RowKit
set_option linter.unusedVariables false
set_option linter.unusedSimpArgs false
set_option maxRecDepth 8000

set_option maxHeartbeats 1000000 in
theorem req1_v (p wt : SesX) (u : Value) (w : World) (L : List Nat) (hL : LL L w) (h0 : PtR L w u (encZ wt)) : CV Tryz.prog 30 [.agg #[.int .i64 p.id, .string p.sec, .string p.med, .string p.whr, .string p.tok, .int .i64 p.att, .int .i64 p.since, .int .i64 p.wrong, .bool p.shown, .int .i64 p.sat], u] w fun v W => v = .bool (smP wt p) := by
  refine cv_enter (N := 7) (f := [(0, .agg #[.int .i64 p.id, .string p.sec, .string p.med, .string p.whr, .string p.tok, .int .i64 p.att, .int .i64 p.since, .int .i64 p.wrong, .bool p.shown, .int .i64 p.sat]), (1, u)]) Tryz.func30 rfl rfl rfl rfl fun Q hQ hE => ?_
  have hB := Below.refl w.heap.size w
  refine WC.seq fun K1 hK1 => ?_
  refine WC.region ?_
  refine WL.get (dx_box rfl rfl rfl) rfl rfl ?_
  rintro _ W2 ⟨rfl, k3, b4, z5⟩
  have l6 := hB.size
  replace h0 := h0.more b4 (Nat.le_refl _)
  replace hB := below_then hB b4
  replace hL := LL.more hL z5
  refine WL.val (dx_assign rfl rfl) rfl rfl ?_
  refine WL.nil ?_
  refine hK1 ?_
  refine WC.seq fun K7 hK7 => ?_
  refine WC.region ?_
  refine WL.val (dx_loadN rfl ty_agg_26_10 rfl k3.range rfl) rfl rfl ?_
  refine WL.val (dx_loadPN rfl ty_agg_26_10 rfl h0 rfl) rfl rfl ?_
  refine WL.get (dx_cv rfl Tryz.func31 rfl rfl rfl (same_v p wt W2 [] (LL.nil _))) rfl rfl ?_
  rintro _ W9 ⟨rfl, b8⟩
  replace h0 := h0.below b8
  replace k3 := k3.below b8
  replace hB := below_then hB b8
  replace hL := LL.below hL b8
  refine WL.val (dx_assign rfl rfl) rfl rfl ?_
  refine WL.nil ?_
  refine hK7 ?_
  refine WC.ret fun a_ ha_ => ?_
  exact hQ (cv_ret1 rfl (.tmp rfl) rfl hB ha_)

set_option maxHeartbeats 1000000 in
theorem req2_v (p wt : SesX) (u : Value) (w : World) (L : List Nat) (hL : LL L w) (h0 : PtR L w u (encZ wt)) : CV Tryz.prog 33 [.agg #[.int .i64 p.id, .string p.sec, .string p.med, .string p.whr, .string p.tok, .int .i64 p.att, .int .i64 p.since, .int .i64 p.wrong, .bool p.shown, .int .i64 p.sat], u] w fun v W => v = .bool (twP wt p) := by
  refine cv_enter (N := 16) (f := [(0, .agg #[.int .i64 p.id, .string p.sec, .string p.med, .string p.whr, .string p.tok, .int .i64 p.att, .int .i64 p.since, .int .i64 p.wrong, .bool p.shown, .int .i64 p.sat]), (1, u)]) Tryz.func33 rfl rfl rfl rfl fun Q hQ hE => ?_
  have hB := Below.refl w.heap.size w
  refine WC.seq fun K1 hK1 => ?_
  refine WC.region ?_
  refine WL.get (dx_box rfl rfl rfl) rfl rfl ?_
  rintro _ W2 ⟨rfl, k3, b4, z5⟩
  have l6 := hB.size
  replace h0 := h0.more b4 (Nat.le_refl _)
  replace hB := below_then hB b4
  replace hL := LL.more hL z5
  refine WL.val (dx_assign rfl rfl) rfl rfl ?_
  refine WL.nil ?_
  refine hK1 ?_
  refine WC.seq fun K7 hK7 => ?_
  refine WC.region ?_
  refine WL.val (dx_fld (o1 := 0) rfl ty_fld_26_0_0 rfl rfl) rfl rfl ?_
  refine WL.val (dx_load rfl ty_one_3 rfl (k3.cell (k := 0) rfl)) rfl rfl ?_
  refine WL.get (dx_fldP 1 rfl ty_fld_26_0_0 rfl h0 (cs' := [.int .i64 wt.id]) rfl (Nat.succ_pos _)) rfl rfl ?_
  rintro u8 _ ⟨rfl, p9⟩
  refine WL.val (dx_loadP rfl ty_one_3 rfl p9) rfl rfl ?_
  refine WL.val (dx_eql rfl rfl rfl) rfl rfl ?_
  refine WL.val (dx_move rfl rfl) rfl rfl ?_
  refine WL.split 9 rfl (fun g10 => ?_) (fun g10 => ?_)
  ·
    replace g10 := of_decide_eq_true g10
    refine WL.off rfl rfl rfl ?_
    refine WL.off rfl rfl rfl ?_
    refine WL.off rfl rfl rfl ?_
    refine WL.off rfl rfl rfl ?_
    refine WL.off rfl rfl rfl ?_
    refine WL.val (dx_pick rfl rfl rfl) rfl rfl ?_
    refine WL.val (dx_assign rfl rfl) rfl rfl ?_
    refine WL.nil ?_
    refine hK7 ?_
    refine WC.ret fun a_ ha_ => ?_
    exact hQ (cv_ret1 rfl (.tmp rfl) (by simp [twP, *]) hB ha_)
  ·
    replace g10 := of_decide_eq_false g10
    refine WL.val (dx_fld (o1 := 4) rfl ty_fld_26_3_4 rfl rfl) rfl rfl ?_
    refine WL.val (dx_load rfl ty_one_9 rfl (k3.cell (k := 4) rfl)) rfl rfl ?_
    refine WL.get (dx_fldP 1 rfl ty_fld_26_3_4 rfl h0 (cs' := [.string wt.tok]) rfl (Nat.succ_pos _)) rfl rfl ?_
    rintro u11 _ ⟨rfl, p12⟩
    refine WL.val (dx_loadP rfl ty_one_9 rfl p12) rfl rfl ?_
    refine WL.val (dx_eqlT rfl rfl rfl) rfl rfl ?_
    refine WL.val (dx_pick rfl rfl rfl) rfl rfl ?_
    refine WL.val (dx_assign rfl rfl) rfl rfl ?_
    refine WL.nil ?_
    refine hK7 ?_
    refine WC.ret fun a_ ha_ => ?_
    exact hQ (cv_ret1 rfl (.tmp rfl) (by simp [twP, *]) hB ha_)

set_option maxHeartbeats 1000000 in
theorem req3_v (p wt : SesX) (u : Value) (w : World) (L : List Nat) (hL : LL L w) (h0 : PtR L w u (encZ wt)) : CV Tryz.prog 34 [.agg #[.int .i64 p.id, .string p.sec, .string p.med, .string p.whr, .string p.tok, .int .i64 p.att, .int .i64 p.since, .int .i64 p.wrong, .bool p.shown, .int .i64 p.sat], u] w fun v W => v = .bool (gtP wt.id p) := by
  refine cv_enter (N := 9) (f := [(0, .agg #[.int .i64 p.id, .string p.sec, .string p.med, .string p.whr, .string p.tok, .int .i64 p.att, .int .i64 p.since, .int .i64 p.wrong, .bool p.shown, .int .i64 p.sat]), (1, u)]) Tryz.func34 rfl rfl rfl rfl fun Q hQ hE => ?_
  have hB := Below.refl w.heap.size w
  refine WC.seq fun K1 hK1 => ?_
  refine WC.region ?_
  refine WL.get (dx_box rfl rfl rfl) rfl rfl ?_
  rintro _ W2 ⟨rfl, k3, b4, z5⟩
  have l6 := hB.size
  replace h0 := h0.more b4 (Nat.le_refl _)
  replace hB := below_then hB b4
  replace hL := LL.more hL z5
  refine WL.val (dx_assign rfl rfl) rfl rfl ?_
  refine WL.nil ?_
  refine hK1 ?_
  refine WC.seq fun K7 hK7 => ?_
  refine WC.region ?_
  refine WL.val (dx_fld (o1 := 0) rfl ty_fld_26_0_0 rfl rfl) rfl rfl ?_
  refine WL.val (dx_load rfl ty_one_3 rfl (k3.cell (k := 0) rfl)) rfl rfl ?_
  refine WL.get (dx_fldP 1 rfl ty_fld_26_0_0 rfl h0 (cs' := [.int .i64 wt.id]) rfl (Nat.succ_pos _)) rfl rfl ?_
  rintro u8 _ ⟨rfl, p9⟩
  refine WL.val (dx_loadP rfl ty_one_3 rfl p9) rfl rfl ?_
  refine WL.val (dx_gtr rfl rfl rfl) rfl rfl ?_
  refine WL.val (dx_assign rfl rfl) rfl rfl ?_
  refine WL.nil ?_
  refine hK7 ?_
  refine WC.ret fun a_ ha_ => ?_
  exact hQ (cv_ret1 rfl (.tmp rfl) rfl hB ha_)

theorem Chg.andThen {B : Nat} {w W W' : World} (h : Chg B w W) (k : Chg B W W') : Chg B w W' :=
  ⟨by rw [k.os, h.os], by rw [k.tape, h.tape], by rw [k.output, h.output], Nat.le_trans h.size k.size, fun j hj hn => by rw [k.block j (Nat.lt_of_lt_of_le hj h.size) hn, h.block j hj hn]⟩
/-- An insert of one into a slice of one's own. -/
theorem insertOZ (rs : List (List Value)) (row : List Value) (i base B : Nat) (j : Int) (u v : Value) (w : World) (hj : j = (i : Int)) (hu : OwS 10 w u rs B) (hBb : B < base) (hv : NewS 10 base [row] v w) (hi : i ≤ rs.length) (hsm : (rs.length + 1) * 112 ≤ 140737488355328) (hone : ∀ r ∈ rs, ∀ u ∈ r, u.oneCell' = true) (hrow : ∀ u ∈ row, u.oneCell' = true) :
    Calls Tryz.prog 35 [u, .int .i64 j, v].toArray w fun e w' => ∃ x, e = .returned x ∧ (∃ B', OwS 10 w' x (rs.take i ++ ([row] ++ rs.drop i)) B' ∧ (B' = B ∨ w.heap.size ≤ B')) ∧ Chg B w w' := by
  subst hj
  obtain ⟨sp, rfl, hR⟩ := hu.open
  have hrow' : ∀ r ∈ [row], ∀ u ∈ r, u.oneCell' = true := fun r hr => by rw [List.mem_singleton.1 hr]; exact hrow
  rcases hv with ⟨_, h, _⟩ | ⟨C, vp, hC, rfl, hV, _⟩
  · cases h
  exact insertSession_v rs sp [row] vp i B C w [] (fun x hx => by rw [List.mem_singleton.1 hx]; exact hR.lt) hR hV (by omega) hi (by simp) (by simpa using hsm) hone hrow'
/-- An insert of one into nothing. -/
theorem insertNZ (row : List Value) (base : Nat) (j : Int) (u v : Value) (w : World) (hj : j = 0) (hu : u = .slice none 0 0) (hv : NewS 10 base [row] v w) (hb : base ≤ w.heap.size) :
    Calls Tryz.prog 35 [u, .int .i64 j, v].toArray w fun e w' => ∃ x, e = .returned x ∧ (∃ B', w.heap.size ≤ B' ∧ OwS 10 w' x [row] B') ∧ Below w.heap.size w w' := by
  subst hj hu
  rcases hv with ⟨_, h, _⟩ | ⟨C, vp, hC, rfl, hV, _⟩
  · cases h
  exact Calls.mono (insertNSession_v [row] vp C w [] (LL.nil _) hV (by simp) (by simp)) fun e w' ⟨x, h1, h2, h3⟩ => ⟨x, h1, h2, h3⟩
theorem ins_rowsZ (xs : List SesX) (wt : SesX) (k : Nat) : (xs.map encZ).take k ++ ([encZ wt] ++ (xs.map encZ).drop k) = (xs.take k ++ (wt :: xs.drop k)).map encZ := by simp
set_option maxHeartbeats 1000000 in
theorem request_v (xs : List SesX) (wt : SesX) (sv : Value) (w : World) (L : List Nat) (hL : LL L w) (h1 : RdF 10 L w sv (xs.map encZ)) (hM : MaxL L w)  (hsz : smallZ xs) (hw : wt.whr.size ≤ 140737488355328) : CV Tryz.prog 15 [sv, .agg #[.int .i64 wt.id, .string wt.sec, .string wt.med, .string wt.whr, .string wt.tok, .int .i64 wt.att, .int .i64 wt.since, .int .i64 wt.wrong, .bool wt.shown, .int .i64 wt.sat]] w fun v W => ∃ s2, v = .tuple #[s2, .int .i64 (reqI xs wt), .bool (reqS xs wt), .int .i64 (reqE xs wt)] ∧ RdF 10 L W s2 ((reqL xs wt).map encZ) := by
  refine cv_enter (N := 87) (f := [(0, sv), (1, .agg #[.int .i64 wt.id, .string wt.sec, .string wt.med, .string wt.whr, .string wt.tok, .int .i64 wt.att, .int .i64 wt.since, .int .i64 wt.wrong, .bool wt.shown, .int .i64 wt.sat])]) Tryz.func15 rfl rfl rfl rfl fun Q hQ hE => ?_
  have hB := Below.refl w.heap.size w
  have hL0 := hL
  have h1m : xs.length ≤ maxLen := by have := h1.len; rwa [List.length_map] at this
  unfold maxLen at h1m
  refine WC.seq fun K1 hK1 => ?_
  refine WC.region ?_
  refine WL.get (dx_box rfl rfl rfl) rfl rfl ?_
  rintro _ W2 ⟨rfl, k3, b4, z5⟩
  have l6 := hB.size
  replace h1 := h1.more b4 (Nat.le_refl _)
  replace hM := hM.more b4 (Nat.le_refl _)
  replace hB := below_then hB b4
  replace hL := LL.more hL z5
  refine WL.val (dx_assign rfl rfl) rfl rfl ?_
  refine WL.val (dx_assign rfl rfl) rfl rfl ?_
  refine WL.val (dx_assign rfl rfl) rfl rfl ?_
  refine WL.val (dx_assign rfl rfl) rfl rfl ?_
  refine WL.nil ?_
  refine hK1 ?_
  refine WC.seq fun K7 hK7 => ?_
  refine WC.seq fun K8 hK8 => ?_
  refine WC.region ?_
  refine WL.val (dx_move rfl rfl) rfl rfl ?_
  refine WL.get (dx_cv rfl Tryz.func22 rfl rfl rfl (rightZ_v xs _ W2 _ hL h1 hM hsz)) rfl rfl ?_
  rintro _ W10 ⟨rfl, b9⟩
  replace h1 := h1.below b9
  replace hM := hM.below b9
  replace k3 := k3.below b9
  replace hB := below_then hB b9
  replace hL := LL.below hL b9
  refine WL.val (dx_not rfl rfl) rfl rfl ?_
  refine WL.val (dx_move rfl rfl) rfl rfl ?_
  refine WL.split 14 rfl (fun g11 => ?_) (fun g11 => ?_)
  ·
    replace g11 := bnot_t g11
    refine WL.off rfl rfl rfl ?_
    refine WL.off rfl rfl rfl ?_
    refine WL.off rfl rfl rfl ?_
    refine WL.val (dx_pick rfl rfl rfl) rfl rfl ?_
    refine WL.val (dx_move rfl rfl) rfl rfl ?_
    refine WL.off rfl rfl rfl ?_
    refine WL.off rfl rfl rfl ?_
    refine WL.off rfl rfl rfl ?_
    refine WL.val (dx_pick rfl rfl rfl) rfl rfl ?_
    refine WL.val (dx_move rfl rfl) rfl rfl ?_
    refine WL.off rfl rfl rfl ?_
    refine WL.off rfl rfl rfl ?_
    refine WL.val (dx_pick rfl rfl rfl) rfl rfl ?_
    refine WL.nil ?_
    refine hK8 ?_
    refine WC.condT rfl ?_
    refine WC.seq fun K12 hK12 => ?_
    refine WC.region ?_
    refine WL.val (dx_move rfl rfl) rfl rfl ?_
    refine WL.val (dx_assign rfl rfl) rfl rfl ?_
    refine WL.val (dx_assign rfl rfl) rfl rfl ?_
    refine WL.val (dx_assign rfl rfl) rfl rfl ?_
    refine WL.val (dx_assign rfl rfl) rfl rfl ?_
    refine WL.nil ?_
    refine hK12 ?_
    refine WC.ret fun a_ ha_ => ?_
    exact hQ (cv_ret4 rfl (.tmp rfl) (.tmp rfl) (.tmp rfl) (.tmp rfl) (by have he : reqE xs wt = 1 := (by unfold reqE; rw [if_neg (by rintro ⟨q1, q2, q3, q4⟩; simp_all)]); have hn : ¬ reqE xs wt = 0 := (by rw [he]; decide); have hl : reqL xs wt = xs := (by unfold reqL; rw [if_neg hn]); have hi : reqI xs wt = 0 := (by unfold reqI; rw [if_neg hn]); have hs : reqS xs wt = false := (by unfold reqS; rw [if_neg hn]); rw [he, hl, hi, hs]; exact ⟨_, rfl, (h1.less (fun x hx => (.tail _ hx)))⟩) hB ha_)
  ·
    replace g11 := bnot_f g11
    refine WL.val (dx_loadN rfl ty_agg_26_10 rfl k3.range rfl) rfl rfl ?_
    refine WL.get (dx_cv rfl Tryz.func29 rfl rfl rfl (goodZ_v wt W10 _ hL hM hw)) rfl rfl ?_
    rintro _ W14 ⟨rfl, b13⟩
    replace h1 := h1.below b13
    replace hM := hM.below b13
    replace k3 := k3.below b13
    replace hB := below_then hB b13
    replace hL := LL.below hL b13
    refine WL.val (dx_not rfl rfl) rfl rfl ?_
    refine WL.val (dx_pick rfl rfl rfl) rfl rfl ?_
    refine WL.val (dx_move rfl rfl) rfl rfl ?_
    refine WL.split 19 rfl (fun g15 => ?_) (fun g15 => ?_)
    ·
      replace g15 := bnot_t g15
      refine WL.off rfl rfl rfl ?_
      refine WL.off rfl rfl rfl ?_
      refine WL.off rfl rfl rfl ?_
      refine WL.val (dx_pick rfl rfl rfl) rfl rfl ?_
      refine WL.val (dx_move rfl rfl) rfl rfl ?_
      refine WL.off rfl rfl rfl ?_
      refine WL.off rfl rfl rfl ?_
      refine WL.val (dx_pick rfl rfl rfl) rfl rfl ?_
      refine WL.nil ?_
      refine hK8 ?_
      refine WC.condT rfl ?_
      refine WC.seq fun K16 hK16 => ?_
      refine WC.region ?_
      refine WL.val (dx_move rfl rfl) rfl rfl ?_
      refine WL.val (dx_assign rfl rfl) rfl rfl ?_
      refine WL.val (dx_assign rfl rfl) rfl rfl ?_
      refine WL.val (dx_assign rfl rfl) rfl rfl ?_
      refine WL.val (dx_assign rfl rfl) rfl rfl ?_
      refine WL.nil ?_
      refine hK16 ?_
      refine WC.ret fun a_ ha_ => ?_
      exact hQ (cv_ret4 rfl (.tmp rfl) (.tmp rfl) (.tmp rfl) (.tmp rfl) (by have he : reqE xs wt = 1 := (by unfold reqE; rw [if_neg (by rintro ⟨q1, q2, q3, q4⟩; simp_all)]); have hn : ¬ reqE xs wt = 0 := (by rw [he]; decide); have hl : reqL xs wt = xs := (by unfold reqL; rw [if_neg hn]); have hi : reqI xs wt = 0 := (by unfold reqI; rw [if_neg hn]); have hs : reqS xs wt = false := (by unfold reqS; rw [if_neg hn]); rw [he, hl, hi, hs]; exact ⟨_, rfl, (h1.less (fun x hx => (.tail _ hx)))⟩) hB ha_)
    ·
      replace g15 := bnot_f g15
      refine WL.val (dx_fld (o1 := 7) rfl ty_fld_26_6_7 rfl rfl) rfl rfl ?_
      refine WL.val (dx_load rfl ty_one_3 rfl (k3.cell (k := 7) rfl)) rfl rfl ?_
      refine WL.val (dx_neq rfl rfl rfl) rfl rfl ?_
      refine WL.val (dx_pick rfl rfl rfl) rfl rfl ?_
      refine WL.val (dx_move rfl rfl) rfl rfl ?_
      refine WL.split 24 rfl (fun g17 => ?_) (fun g17 => ?_)
      ·
        replace g17 := bnot_t g17
        replace g17 := of_decide_eq_false g17
        refine WL.off rfl rfl rfl ?_
        refine WL.off rfl rfl rfl ?_
        refine WL.val (dx_pick rfl rfl rfl) rfl rfl ?_
        refine WL.nil ?_
        refine hK8 ?_
        refine WC.condT rfl ?_
        refine WC.seq fun K18 hK18 => ?_
        refine WC.region ?_
        refine WL.val (dx_move rfl rfl) rfl rfl ?_
        refine WL.val (dx_assign rfl rfl) rfl rfl ?_
        refine WL.val (dx_assign rfl rfl) rfl rfl ?_
        refine WL.val (dx_assign rfl rfl) rfl rfl ?_
        refine WL.val (dx_assign rfl rfl) rfl rfl ?_
        refine WL.nil ?_
        refine hK18 ?_
        refine WC.ret fun a_ ha_ => ?_
        exact hQ (cv_ret4 rfl (.tmp rfl) (.tmp rfl) (.tmp rfl) (.tmp rfl) (by have he : reqE xs wt = 1 := (by unfold reqE; rw [if_neg (by rintro ⟨q1, q2, q3, q4⟩; simp_all)]); have hn : ¬ reqE xs wt = 0 := (by rw [he]; decide); have hl : reqL xs wt = xs := (by unfold reqL; rw [if_neg hn]); have hi : reqI xs wt = 0 := (by unfold reqI; rw [if_neg hn]); have hs : reqS xs wt = false := (by unfold reqS; rw [if_neg hn]); rw [he, hl, hi, hs]; exact ⟨_, rfl, (h1.less (fun x hx => (.tail _ hx)))⟩) hB ha_)
      ·
        replace g17 := bnot_f g17
        replace g17 := of_decide_eq_true g17
        refine WL.val (dx_fld (o1 := 8) rfl ty_fld_26_7_8 rfl rfl) rfl rfl ?_
        refine WL.val (dx_load rfl ty_one_4 rfl (k3.cell (k := 8) rfl)) rfl rfl ?_
        refine WL.val (dx_pick rfl rfl rfl) rfl rfl ?_
        refine WL.nil ?_
        refine hK8 ?_
        refine WC.cond rfl (fun c19 => ?_) (fun c19 => ?_)
        ·
          refine WC.seq fun K20 hK20 => ?_
          refine WC.region ?_
          refine WL.val (dx_move rfl rfl) rfl rfl ?_
          refine WL.val (dx_assign rfl rfl) rfl rfl ?_
          refine WL.val (dx_assign rfl rfl) rfl rfl ?_
          refine WL.val (dx_assign rfl rfl) rfl rfl ?_
          refine WL.val (dx_assign rfl rfl) rfl rfl ?_
          refine WL.nil ?_
          refine hK20 ?_
          refine WC.ret fun a_ ha_ => ?_
          exact hQ (cv_ret4 rfl (.tmp rfl) (.tmp rfl) (.tmp rfl) (.tmp rfl) (by have he : reqE xs wt = 1 := (by unfold reqE; rw [if_neg (by rintro ⟨q1, q2, q3, q4⟩; simp_all)]); have hn : ¬ reqE xs wt = 0 := (by rw [he]; decide); have hl : reqL xs wt = xs := (by unfold reqL; rw [if_neg hn]); have hi : reqI xs wt = 0 := (by unfold reqI; rw [if_neg hn]); have hs : reqS xs wt = false := (by unfold reqS; rw [if_neg hn]); rw [he, hl, hi, hs]; exact ⟨_, rfl, (h1.less (fun x hx => (.tail _ hx)))⟩) hB ha_)
        ·
          refine WC.skip ?_
          refine hK7 ?_
          refine WC.seq fun K21 hK21 => ?_
          refine WC.region ?_
          refine WL.val (dx_move rfl rfl) rfl rfl ?_
          refine WL.val (dx_fld (o1 := 6) rfl ty_fld_26_5_6 rfl rfl) rfl rfl ?_
          refine WL.val (dx_load rfl ty_one_3 rfl (k3.cell (k := 6) rfl)) rfl rfl ?_
          have zh1 := h1
          have zhM := hM
          have zk3 := k3
          have zhB := hB
          have zhL := hL
          refine WL.get (dx_cv rfl Tryz.func13 rfl rfl rfl (prune_v xs wt.since _ W14 _ hL h1 hM hsz)) rfl rfl ?_
          rintro u22 W24 ⟨hO, b23⟩
          replace h1 := h1.below b23
          replace hM := hM.below b23
          replace k3 := k3.below b23
          replace hB := below_then hB b23
          replace hL := LL.below hL b23
          replace hO : NewW 10 W14.heap.size ((opnZ xs wt).map encZ) u22 W24 := hO
          have hP : SinceB W14 (w.heap.size :: L) W24 := b23
          have hOr : RdF 10 (w.heap.size :: L) W24 u22 ((opnZ xs wt).map encZ) := hO.rd zhL
          have hor : rightZ (opnZ xs wt) = true := prune_rightA xs wt.since
          have hol : (opnZ xs wt).length ≤ 16 := rightZ_len hor
          have hix := idxX_lt (p := gtP wt.id) (opnZ xs wt) 0
          refine WL.val (dx_assign rfl rfl) rfl rfl ?_
          refine WL.nil ?_
          refine hK21 ?_
          refine WC.seq fun K25 hK25 => ?_
          refine WC.seq fun K26 hK26 => ?_
          refine WC.region ?_
          refine WL.val (dx_move rfl rfl) rfl rfl ?_
          refine WL.val (dx_func rfl rfl rfl) rfl rfl ?_
          refine WL.get (dx_cv rfl Tryz.func23 rfl rfl rfl (indexFuncZ_v (opnZ xs wt) (smP wt) _ _ W24 _ hL hOr (fun W hW x hx => fv_of (cs := [.pointer (some ⟨w.heap.size, 0, none⟩)]) Tryz.func30 rfl rfl (req1_v x wt _ W [] (LL.nil _) ⟨Nat.succ_pos _, w.heap.size, 0, rfl, by simp, (k3.below hW).range⟩)))) rfl rfl ?_
          rintro _ W28 ⟨rfl, b27⟩
          replace h1 := h1.below b27
          replace hM := hM.below b27
          replace hP := hP.below b27
          replace hOr := hOr.below b27
          replace hO := hO.below b27
          replace k3 := k3.below b27
          replace hB := below_then hB b27
          replace hL := LL.below hL b27
          refine WL.val (dx_assign rfl rfl) rfl rfl ?_
          refine WL.nil ?_
          refine hK26 ?_
          refine WC.seq fun K29 hK29 => ?_
          refine WC.region ?_
          refine WL.val (dx_move rfl rfl) rfl rfl ?_
          refine WL.val (dx_geq rfl rfl rfl) rfl rfl ?_
          refine WL.nil ?_
          refine hK29 ?_
          refine WC.cond rfl (fun c30 => ?_) (fun c30 => ?_)
          ·
            replace c30 := of_decide_eq_true c30
            refine WC.seq fun K31 hK31 => ?_
            obtain ⟨k0, hk0, hx0, hsm, hno⟩ := sm_is (show 0 ≤ smAt xs wt by assumption)
            have hk0' : idxX (smP wt) (opnZ xs wt) 0 = (k0 : Int) := hk0
            obtain ⟨r0, hz⟩ : ∃ r, r = hitZ xs wt := ⟨_, rfl⟩
            rw [← hz] at hx0
            have hl0 := (List.getElem?_eq_some_iff.1 hx0).1
            refine WC.drawM 7 [(some 38, .is (.pointer (some ⟨w.heap.size, 5, none⟩))), (some 39, .is (.int .i64 wt.att)), (some 40, .is (u22)), (some 41, .is (.int .i64 (idxX (smP wt) (opnZ xs wt) 0))), (some 42, .by fun u W => PtR (w.heap.size :: L) W u (encZ r0)), (some 43, .by fun u W => PtR (w.heap.size :: L) W u [.int .i64 r0.att]), (some 44, .is (.int .i64 r0.att))] [[], [0], [], [], [2, 3], [4], [5]] (by kernel_rfl) (by kernel_rfl) (by kernel_rfl) (by kernel_rfl) (by kernel_rfl) (by kernel_rfl) (by kernel_rfl) ⟨fun _ _ _ hb h => h.below hb, fun _ _ _ hb h => h.below hb, trivial⟩ ?_ ?_
            ·
              refine DSteps.cons (fun Wd hd => ?_) ?_
              ·
                exact DV.dr (dx_fld (o1 := 5) rfl ty_fld_26_4_5 rfl rfl) ⟨Below.refl _ _, rfl⟩
              refine DSteps.cons (fun Wd hd => ?_) ?_
              ·
                have k3 := k3.below hd
                exact DV.dr (dx_load rfl ty_one_3 rfl (k3.cell (k := 5) rfl)) ⟨Below.refl _ _, rfl⟩
              refine DSteps.cons (fun Wd hd => ?_) ?_
              ·
                exact DV.dr (dx_move rfl rfl) ⟨Below.refl _ _, rfl⟩
              refine DSteps.cons (fun Wd hd => ?_) ?_
              ·
                exact DV.dr (dx_move rfl rfl) ⟨Below.refl _ _, rfl⟩
              refine DSteps.cons (fun Wd hd => ?_) ?_
              ·
                have hOr := hOr.below hd
                exact (dx_idxF k0 rfl ty_slice_22 rfl rfl hOr (by omega) (at_mapX hx0)).mono (fun v W' h => ⟨by rw [← h.1]; exact Below.refl _ _, by rw [← h.1]; exact h.2⟩)
              refine DSteps.cons (fun Wd hd => ?_) ?_
              ·
                intro u6_4 p6_4
                exact (dx_fldP 1 rfl ty_fld_26_4_5 rfl p6_4 (cs' := [.int .i64 r0.att]) rfl (Nat.succ_pos _)).mono (fun v W' h => ⟨by rw [← h.1]; exact Below.refl _ _, by rw [← h.1]; exact h.2⟩)
              refine DSteps.cons (fun Wd hd => ?_) ?_
              ·
                intro u6_5 p6_5
                exact DV.dr (dx_loadP rfl ty_one_3 rfl p6_5) ⟨Below.refl _ _, rfl⟩
              exact trivial
            ·
              intro W32 b33
              intro u6_4 p6_4
              intro u6_5 p6_5
              replace h1 := h1.below b33
              replace hM := hM.below b33
              replace hP := hP.below b33
              replace hOr := hOr.below b33
              replace hO := hO.below b33
              replace k3 := k3.below b33
              replace hB := below_then hB b33
              replace hL := LL.below hL b33
              refine WL.val (dx_gtr rfl rfl rfl) rfl rfl ?_
              refine WL.val (dx_assign rfl rfl) rfl rfl ?_
              refine WL.nil ?_
              refine hK31 ?_
              refine WC.seq fun K34 hK34 => ?_
              obtain ⟨B0, hB0, hW0⟩ : ∃ B, W14.heap.size ≤ B ∧ OwS 10 W32 u22 ((opnZ xs wt).map encZ) B := (by rcases hO with ⟨_, h, _⟩ | h; exfalso; have := congrArg List.length h; rw [List.length_map, List.length_nil] at this; omega; exact h)
              have hPW := hP
              replace h1 := zh1
              replace hM := zhM
              replace k3 := zk3
              replace hB := zhB
              replace hL := zhL
              have n35 : w.heap.size ≠ B0 := Nat.ne_of_lt (Nat.lt_of_lt_of_le k3.lt hB0)
              have l36 := Nat.le_trans hB.size hB0
              replace h1 := h1.more hPW hB0
              replace hM := hM.more hPW hB0
              replace k3 := k3.below hPW
              replace hB := below_then hB hPW
              replace hL := LL.cons (LL.below hL hPW) hW0.lt
              refine WC.drawM 10 [(some 46, .is (u22)), (some 47, .is (.int .i64 (idxX (smP wt) (opnZ xs wt) 0))), (some 48, .is (.pointer (some ⟨w.heap.size, 5, none⟩))), (some 49, .is (.int .i64 wt.att)), (some 50, .is (u22)), (some 51, .is (.int .i64 (idxX (smP wt) (opnZ xs wt) 0))), (some 52, .is (.pointer (some ⟨B0, k0 * 10, none⟩))), (some 53, .is (.pointer (some ⟨B0, k0 * 10 + 5, none⟩))), (some 54, .is (.int .i64 r0.att)), (some 55, .is (.int .i64 (if wt.att < r0.att then r0.att else wt.att)))] [[], [], [], [2], [], [], [4, 5], [6], [7], [3, 8]] (by kernel_rfl) (by kernel_rfl) (by kernel_rfl) (by kernel_rfl) (by kernel_rfl) (by kernel_rfl) (by kernel_rfl) (by exact trivial) ?_ ?_
              ·
                refine DSteps.cons (fun Wd hd => ?_) ?_
                ·
                  exact DV.dr (dx_move rfl rfl) ⟨Below.refl _ _, rfl⟩
                refine DSteps.cons (fun Wd hd => ?_) ?_
                ·
                  exact DV.dr (dx_move rfl rfl) ⟨Below.refl _ _, rfl⟩
                refine DSteps.cons (fun Wd hd => ?_) ?_
                ·
                  exact DV.dr (dx_fld (o1 := 5) rfl ty_fld_26_4_5 rfl rfl) ⟨Below.refl _ _, rfl⟩
                refine DSteps.cons (fun Wd hd => ?_) ?_
                ·
                  have k3 := k3.below hd
                  exact DV.dr (dx_load rfl ty_one_3 rfl (k3.cell (k := 5) rfl)) ⟨Below.refl _ _, rfl⟩
                refine DSteps.cons (fun Wd hd => ?_) ?_
                ·
                  exact DV.dr (dx_move rfl rfl) ⟨Below.refl _ _, rfl⟩
                refine DSteps.cons (fun Wd hd => ?_) ?_
                ·
                  exact DV.dr (dx_move rfl rfl) ⟨Below.refl _ _, rfl⟩
                refine DSteps.cons (fun Wd hd => ?_) ?_
                ·
                  have hW0 := hW0.below hd
                  exact DV.dr (dx_idxO k0 rfl ty_slice_22 rfl rfl hW0 (by omega) (by rw [List.length_map]; omega) rfl) ⟨Below.refl _ _, rfl⟩
                refine DSteps.cons (fun Wd hd => ?_) ?_
                ·
                  exact DV.dr (dx_fld (o1 := k0 * 10 + 5) rfl ty_fld_26_4_5 rfl rfl) ⟨Below.refl _ _, rfl⟩
                refine DSteps.cons (fun Wd hd => ?_) ?_
                ·
                  have hW0 := hW0.below hd
                  exact DV.dr (dx_load rfl ty_one_3 rfl (hW0.cellF (k := k0) (j := 5) (at_mapX hx0) rfl rfl)) ⟨Below.refl _ _, rfl⟩
                refine DSteps.cons (fun Wd hd => ?_) ?_
                ·
                  exact DV.dr (dx_max rfl rfl rfl) ⟨Below.refl _ _, rfl⟩
                exact trivial
              ·
                intro W37 b38
                replace h1 := h1.below b38
                replace hM := hM.below b38
                replace k3 := k3.below b38
                replace hW0 := hW0.below b38
                replace hB := below_then hB b38
                replace hL := LL.below hL b38
                refine WL.val (dx_idxO k0 rfl ty_slice_22 rfl rfl hW0 (by omega) (by rw [List.length_map]; omega) rfl) rfl rfl ?_
                refine WL.val (dx_fld (o1 := k0 * 10 + 5) rfl ty_fld_26_4_5 rfl rfl) rfl rfl ?_
                refine WL.do (dx_storeF (k := k0) (j := 5) (r := encZ r0) rfl ty_size_3_1 rfl rfl rfl rfl hW0 rfl (at_mapX hx0) (by decide)) rfl ?_
                rintro _ W39 ⟨k41, o40⟩
                replace k3 := k3.other o40 n35
                clear hW0
                replace h1 := h1.only o40 (.head _)
                replace hM := hM.only o40 (.head _)
                replace hB := o40.below hB l36
                replace hL := LL.only hL o40
                rw [show ((opnZ xs wt).map encZ).set k0 ((encZ r0).set 5 (.int .i64 (if wt.att < r0.att then r0.att else wt.att))) = ((opnZ xs wt).set k0 (bumpZ r0 wt.att)).map encZ from (List.map_set (f := encZ) (l := (opnZ xs wt)) (i := k0) (a := (bumpZ r0 wt.att))).symm] at k41
                obtain ⟨r1, hr1⟩ : ∃ r : SesX, r = (bumpZ r0 wt.att) := ⟨_, rfl⟩
                rw [← hr1] at k41
                have hls : ((opnZ xs wt).set k0 r1).length = (opnZ xs wt).length := List.length_set
                have hxr1 : ((opnZ xs wt).set k0 r1)[k0]? = some r1 := List.getElem?_set_self hl0
                refine WL.nil ?_
                refine hK34 ?_
                refine WC.seq fun K42 hK42 => ?_
                refine WC.drawM 9 [(some 58, .is (u22)), (some 59, .is (u22)), (some 60, .is (.int .i64 (idxX (smP wt) (opnZ xs wt) 0))), (some 61, .is (.pointer (some ⟨B0, k0 * 10, none⟩))), (some 62, .is (.pointer (some ⟨B0, k0 * 10 + 0, none⟩))), (some 63, .is (.int .i64 r1.id)), (some 64, .is (.bool (decide (r0.att < wt.att)))), (some 4, .is (u22)), (some 5, .is (.int .i64 r1.id))] [[], [], [], [1, 2], [3], [4], [], [0, 0], [5, 7, 0, 1, 2, 3, 4, 5, 7]] (by kernel_rfl) (by kernel_rfl) (by kernel_rfl) (by kernel_rfl) (by kernel_rfl) (by kernel_rfl) (by kernel_rfl) (by exact trivial) ?_ ?_
                ·
                  refine DSteps.cons (fun Wd hd => ?_) ?_
                  ·
                    exact DV.dr (dx_move rfl rfl) ⟨Below.refl _ _, rfl⟩
                  refine DSteps.cons (fun Wd hd => ?_) ?_
                  ·
                    exact DV.dr (dx_move rfl rfl) ⟨Below.refl _ _, rfl⟩
                  refine DSteps.cons (fun Wd hd => ?_) ?_
                  ·
                    exact DV.dr (dx_move rfl rfl) ⟨Below.refl _ _, rfl⟩
                  refine DSteps.cons (fun Wd hd => ?_) ?_
                  ·
                    have k41 := k41.below hd
                    exact DV.dr (dx_idxO k0 rfl ty_slice_22 rfl rfl k41 (by omega) (by rw [List.length_map]; omega) rfl) ⟨Below.refl _ _, rfl⟩
                  refine DSteps.cons (fun Wd hd => ?_) ?_
                  ·
                    exact DV.dr (dx_fld (o1 := k0 * 10 + 0) rfl ty_fld_26_0_0 rfl rfl) ⟨Below.refl _ _, rfl⟩
                  refine DSteps.cons (fun Wd hd => ?_) ?_
                  ·
                    have k41 := k41.below hd
                    exact DV.dr (dx_load rfl ty_one_3 rfl (k41.cellF (k := k0) (j := 0) (at_mapX hxr1) rfl rfl)) ⟨Below.refl _ _, rfl⟩
                  refine DSteps.cons (fun Wd hd => ?_) ?_
                  ·
                    exact DV.dr (dx_move rfl rfl) ⟨Below.refl _ _, rfl⟩
                  refine DSteps.cons (fun Wd hd => ?_) ?_
                  ·
                    exact DV.dr (dx_assign rfl rfl) ⟨Below.refl _ _, rfl⟩
                  refine DSteps.cons (fun Wd hd => ?_) ?_
                  ·
                    exact DV.dr (dx_assign rfl rfl) ⟨Below.refl _ _, rfl⟩
                  exact trivial
                ·
                  intro W43 b44
                  replace h1 := h1.below b44
                  replace hM := hM.below b44
                  replace k3 := k3.below b44
                  replace k41 := k41.below b44
                  replace hB := below_then hB b44
                  replace hL := LL.below hL b44
                  refine WL.val (dx_assign rfl rfl) rfl rfl ?_
                  refine WL.val (dx_assign rfl rfl) rfl rfl ?_
                  refine WL.nil ?_
                  refine hK42 ?_
                  refine WC.ret fun a_ ha_ => ?_
                  exact hQ (cv_ret4 rfl (.tmp rfl) (.tmp rfl) (.tmp rfl) (.tmp rfl) (by have he : reqE xs wt = 0 := (by unfold reqE; rw [if_pos (show okReq xs wt from ⟨by first | assumption | simp_all, by first | assumption | simp_all, by first | assumption | simp_all, by first | assumption | simp_all⟩), if_pos (show 0 ≤ smAt xs wt by assumption)]); have hl : reqL xs wt = (opnZ xs wt).set k0 r1 := (by unfold reqL; rw [if_pos he, if_pos (show 0 ≤ smAt xs wt by assumption), hk0, Int.toNat_natCast, ← hz, hr1]); have hi : reqI xs wt = r1.id := (by unfold reqI; rw [if_pos he, if_pos (show 0 ≤ smAt xs wt by assumption), ← hz, hr1]; rfl); have hs : reqS xs wt = decide (r0.att < wt.att) := (by unfold reqS; rw [if_pos he, if_pos (show 0 ≤ smAt xs wt by assumption), ← hz]); rw [he, hl, hi, hs]; exact ⟨_, rfl, k41.notin hL0 l36⟩) hB ha_)
          ·
            replace c30 := of_decide_eq_false c30
            refine WC.skip ?_
            refine hK25 ?_
            refine WC.seq fun K45 hK45 => ?_
            refine WC.seq fun K46 hK46 => ?_
            refine WC.region ?_
            refine WL.val (dx_move rfl rfl) rfl rfl ?_
            refine WL.val (dx_func rfl rfl rfl) rfl rfl ?_
            refine WL.get (dx_cv rfl Tryz.func32 rfl rfl rfl (containsFuncZ_v (opnZ xs wt) (twP wt) _ _ W28 _ hL hOr (fun W hW x hx => fv_of (cs := [.pointer (some ⟨w.heap.size, 0, none⟩)]) Tryz.func33 rfl rfl (req2_v x wt _ W [] (LL.nil _) ⟨Nat.succ_pos _, w.heap.size, 0, rfl, by simp, (k3.below hW).range⟩)))) rfl rfl ?_
            rintro _ W48 ⟨rfl, b47⟩
            replace h1 := h1.below b47
            replace hM := hM.below b47
            replace hP := hP.below b47
            replace hOr := hOr.below b47
            replace hO := hO.below b47
            replace k3 := k3.below b47
            replace hB := below_then hB b47
            replace hL := LL.below hL b47
            refine WL.nil ?_
            refine hK46 ?_
            refine WC.cond rfl (fun c49 => ?_) (fun c49 => ?_)
            ·
              refine WC.seq fun K50 hK50 => ?_
              refine WC.region ?_
              refine WL.val (dx_move rfl rfl) rfl rfl ?_
              refine WL.val (dx_assign rfl rfl) rfl rfl ?_
              refine WL.val (dx_assign rfl rfl) rfl rfl ?_
              refine WL.val (dx_assign rfl rfl) rfl rfl ?_
              refine WL.val (dx_assign rfl rfl) rfl rfl ?_
              refine WL.nil ?_
              refine hK50 ?_
              refine WC.ret fun a_ ha_ => ?_
              exact hQ (cv_ret4 rfl (.tmp rfl) (.tmp rfl) (.tmp rfl) (.tmp rfl) (by have he : reqE xs wt = 6 := (by unfold reqE; rw [if_pos (show okReq xs wt from ⟨by first | assumption | simp_all, by first | assumption | simp_all, by first | assumption | simp_all, by first | assumption | simp_all⟩), if_neg (show ¬ 0 ≤ smAt xs wt by assumption), if_pos (by assumption)]); have hn : ¬ reqE xs wt = 0 := (by rw [he]; decide); have hl : reqL xs wt = xs := (by unfold reqL; rw [if_neg hn]); have hi : reqI xs wt = 0 := (by unfold reqI; rw [if_neg hn]); have hs : reqS xs wt = false := (by unfold reqS; rw [if_neg hn]); rw [he, hl, hi, hs]; exact ⟨_, rfl, (h1.less (fun x hx => (.tail _ hx)))⟩) hB ha_)
            ·
              refine WC.skip ?_
              refine hK45 ?_
              refine WC.seq fun K51 hK51 => ?_
              refine WC.seq fun K52 hK52 => ?_
              refine WC.region ?_
              refine WL.val (dx_move rfl rfl) rfl rfl ?_
              refine WL.val (dx_lenX rfl ty_slice_22 rfl hOr) rfl rfl ?_
              refine WL.val (dx_eql rfl rfl rfl) rfl rfl ?_
              refine WL.nil ?_
              refine hK52 ?_
              refine WC.cond rfl (fun c53 => ?_) (fun c53 => ?_)
              ·
                replace c53 := of_decide_eq_true c53
                refine WC.seq fun K54 hK54 => ?_
                refine WC.region ?_
                refine WL.val (dx_move rfl rfl) rfl rfl ?_
                refine WL.val (dx_assign rfl rfl) rfl rfl ?_
                refine WL.val (dx_assign rfl rfl) rfl rfl ?_
                refine WL.val (dx_assign rfl rfl) rfl rfl ?_
                refine WL.val (dx_assign rfl rfl) rfl rfl ?_
                refine WL.nil ?_
                refine hK54 ?_
                refine WC.ret fun a_ ha_ => ?_
                exact hQ (cv_ret4 rfl (.tmp rfl) (.tmp rfl) (.tmp rfl) (.tmp rfl) (by have he : reqE xs wt = 10 := (by unfold reqE; rw [if_pos (show okReq xs wt from ⟨by first | assumption | simp_all, by first | assumption | simp_all, by first | assumption | simp_all, by first | assumption | simp_all⟩), if_neg (show ¬ 0 ≤ smAt xs wt by assumption), if_neg (by first | assumption | simp_all), if_pos (by assumption)]); have hn : ¬ reqE xs wt = 0 := (by rw [he]; decide); have hl : reqL xs wt = xs := (by unfold reqL; rw [if_neg hn]); have hi : reqI xs wt = 0 := (by unfold reqI; rw [if_neg hn]); have hs : reqS xs wt = false := (by unfold reqS; rw [if_neg hn]); rw [he, hl, hi, hs]; exact ⟨_, rfl, (h1.less (fun x hx => (.tail _ hx)))⟩) hB ha_)
              ·
                replace c53 := of_decide_eq_false c53
                refine WC.skip ?_
                refine hK51 ?_
                refine WC.seq fun K55 hK55 => ?_
                refine WC.region ?_
                refine WL.val (dx_move rfl rfl) rfl rfl ?_
                refine WL.val (dx_func rfl rfl rfl) rfl rfl ?_
                refine WL.get (dx_cv rfl Tryz.func23 rfl rfl rfl (indexFuncZ_v (opnZ xs wt) (gtP wt.id) _ _ W48 _ hL hOr (fun W hW x hx => fv_of (cs := [.pointer (some ⟨w.heap.size, 0, none⟩)]) Tryz.func34 rfl rfl (req3_v x wt _ W [] (LL.nil _) ⟨Nat.succ_pos _, w.heap.size, 0, rfl, by simp, (k3.below hW).range⟩)))) rfl rfl ?_
                rintro _ W57 ⟨rfl, b56⟩
                replace h1 := h1.below b56
                replace hM := hM.below b56
                replace hP := hP.below b56
                replace hOr := hOr.below b56
                replace hO := hO.below b56
                replace k3 := k3.below b56
                replace hB := below_then hB b56
                replace hL := LL.below hL b56
                refine WL.val (dx_assign rfl rfl) rfl rfl ?_
                refine WL.nil ?_
                refine hK55 ?_
                refine WC.seq fun K58 hK58 => ?_
                refine WC.seq fun K59 hK59 => ?_
                refine WC.region ?_
                refine WL.val (dx_move rfl rfl) rfl rfl ?_
                refine WL.val (dx_lss rfl rfl rfl) rfl rfl ?_
                refine WL.nil ?_
                refine hK59 ?_
                refine WC.cond rfl (fun c60 => ?_) (fun c60 => ?_)
                ·
                  replace c60 := of_decide_eq_true c60
                  refine WC.region ?_
                  refine WL.val (dx_move rfl rfl) rfl rfl ?_
                  refine WL.val (dx_lenX rfl ty_slice_22 rfl hOr) rfl rfl ?_
                  refine WL.val (dx_assign rfl rfl) rfl rfl ?_
                  refine WL.nil ?_
                  refine hK58 ?_
                  refine WC.seq fun K61 hK61 => ?_
                  have hat : ((opnZ xs wt).length : Int) = (reqAt (opnZ xs wt) wt.id : Nat) := (by unfold reqAt; first | rw [if_pos (by omega)] | (rw [if_neg (by omega)]; omega))
                  have hra := reqAt_le (opnZ xs wt) wt.id
                  rcases hO with ⟨hn1, hn2, _⟩ | ⟨B0, hB0, hW0⟩
                  ·
                    have hat0 : ((opnZ xs wt).length : Int) = 0 := by have e := congrArg List.length hn2; rw [List.length_map, List.length_nil] at e; omega
                    have zzP := hP
                    refine WC.drawM 8 [(some 80, .is (u22)), (some 81, .is (.int .i64 ((opnZ xs wt).length : Int))), (some 82, .is (.agg #[.int .i64 wt.id, .string wt.sec, .string wt.med, .string wt.whr, .string wt.tok, .int .i64 wt.att, .int .i64 wt.since, .int .i64 wt.wrong, .bool wt.shown, .int .i64 wt.sat])), (some 83, .by fun u W => NewS 10 W57.heap.size [encZ wt] u W), (some 84, .by fun u W => NewQ 10 W57.heap.size [encZ wt] u W), (some 85, .is (.pointer (some ⟨w.heap.size, 0, none⟩))), (some 86, .is (.int .i64 wt.id)), (some 4, .by fun u W => NewQ 10 W57.heap.size [encZ wt] u W)] [[], [], [], [2], [0, 1, 3], [], [5], [4, 4, 0, 1, 2, 3, 4]] (by kernel_rfl) (by kernel_rfl) (by kernel_rfl) (by kernel_rfl) (by kernel_rfl) (by kernel_rfl) (by kernel_rfl) ⟨fun _ _ _ hb h => h.below hb, fun _ _ _ hb h => h.below hb, fun _ _ _ hb h => h.below hb, trivial⟩ ?_ ?_
                    ·
                      refine DSteps.cons (fun Wd hd => ?_) ?_
                      ·
                        exact DV.dr (dx_move rfl rfl) ⟨Below.refl _ _, rfl⟩
                      refine DSteps.cons (fun Wd hd => ?_) ?_
                      ·
                        exact DV.dr (dx_move rfl rfl) ⟨Below.refl _ _, rfl⟩
                      refine DSteps.cons (fun Wd hd => ?_) ?_
                      ·
                        have k3 := k3.below hd
                        exact DV.dr (dx_loadN rfl ty_agg_26_10 rfl k3.range rfl) ⟨Below.refl _ _, rfl⟩
                      refine DSteps.cons (fun Wd hd => ?_) ?_
                      ·
                        exact (dx_lit1 (r := encZ wt) rfl ty_ap_22 (by decide) (by decide) rfl rfl rfl).mono (fun v W' h => ⟨h.2.1, NewS.of_own h.1 hd.size (by simp)⟩)
                      refine DSteps.cons (fun Wd hd => ?_) ?_
                      ·
                        intro u16_3 p16_3
                        exact (dx_callA rfl Tryz.func35 rfl rfl rfl (insertNZ (encZ wt) W57.heap.size _ _ _ Wd hat0 hn1 p16_3 hd.size)).mono (fun v W' h => ⟨h.2, by obtain ⟨B', k1, k2⟩ := h.1; exact ⟨B', Nat.le_trans hd.size k1, k2⟩⟩)
                      refine DSteps.cons (fun Wd hd => ?_) ?_
                      ·
                        exact DV.dr (dx_fld (o1 := 0) rfl ty_fld_26_0_0 rfl rfl) ⟨Below.refl _ _, rfl⟩
                      refine DSteps.cons (fun Wd hd => ?_) ?_
                      ·
                        have k3 := k3.below hd
                        exact DV.dr (dx_load rfl ty_one_3 rfl (k3.cell (k := 0) rfl)) ⟨Below.refl _ _, rfl⟩
                      refine DSteps.cons (fun Wd hd => ?_) ?_
                      ·
                        intro u16_4 p16_4 u16_4 p16_4 u16_3 p16_3 u16_4 p16_4
                        exact DV.dr (dx_assign rfl rfl) ⟨Below.refl _ _, p16_4⟩
                      exact trivial
                    ·
                      intro W62 b63
                      intro u16_3 p16_3
                      intro u16_4 p16_4
                      rintro u16_7 ⟨B16, q16, t16⟩
                      replace h1 := h1.below b63
                      replace hM := hM.below b63
                      replace hP := hP.below b63
                      replace hOr := hOr.below b63
                      replace k3 := k3.below b63
                      replace hB := below_then hB b63
                      replace hL := LL.below hL b63
                      have hPt := (Below.trans zzP (b63.mono (Below.size zzP)))
                      rw [show [encZ wt] = ((opnZ xs wt).take (reqAt (opnZ xs wt) wt.id) ++ wt :: (opnZ xs wt).drop (reqAt (opnZ xs wt) wt.id)).map encZ from by have e : (opnZ xs wt) = [] := List.map_eq_nil_iff.1 hn2; rw [e]; rfl] at t16
                      replace h1 := zh1
                      replace hM := zhM
                      replace k3 := zk3
                      replace hB := zhB
                      replace hL := zhL
                      have n64 : w.heap.size ≠ B16 := Nat.ne_of_lt (Nat.lt_of_lt_of_le k3.lt (Nat.le_trans (Below.size zzP) q16))
                      have l65 := Nat.le_trans hB.size (Nat.le_trans (Below.size zzP) q16)
                      replace h1 := h1.more hPt (Nat.le_trans (Below.size zzP) q16)
                      replace hM := hM.more hPt (Nat.le_trans (Below.size zzP) q16)
                      replace k3 := k3.below hPt
                      replace hB := below_then hB hPt
                      replace hL := LL.cons (LL.below hL hPt) t16.lt
                      refine WL.val (dx_assign rfl rfl) rfl rfl ?_
                      refine WL.val (dx_assign rfl rfl) rfl rfl ?_
                      refine WL.val (dx_assign rfl rfl) rfl rfl ?_
                      refine WL.nil ?_
                      refine hK61 ?_
                      refine WC.ret fun a_ ha_ => ?_
                      exact hQ (cv_ret4 rfl (.tmp rfl) (.tmp rfl) (.tmp rfl) (.tmp rfl) (by have he : reqE xs wt = 0 := (by unfold reqE; rw [if_pos (show okReq xs wt from ⟨by first | assumption | simp_all, by first | assumption | simp_all, by first | assumption | simp_all, by first | assumption | simp_all⟩), if_neg (show ¬ 0 ≤ smAt xs wt by assumption), if_neg (by first | assumption | simp_all), if_neg (by assumption)]); have hl : reqL xs wt = ((opnZ xs wt).take (reqAt (opnZ xs wt) wt.id) ++ wt :: (opnZ xs wt).drop (reqAt (opnZ xs wt) wt.id)) := (by unfold reqL; rw [if_pos he, if_neg (show ¬ 0 ≤ smAt xs wt by assumption)]); have hi : reqI xs wt = wt.id := (by unfold reqI; rw [if_pos he, if_neg (show ¬ 0 ≤ smAt xs wt by assumption)]); have hs : reqS xs wt = true := (by unfold reqS; rw [if_pos he, if_neg (show ¬ 0 ≤ smAt xs wt by assumption)]); rw [he, hl, hi, hs]; exact ⟨_, rfl, t16.notin hL0 l65⟩) hB ha_)
                  ·
                    have hne : w.heap.size ≠ B0 := Nat.ne_of_lt (Nat.lt_of_lt_of_le zk3.lt hB0)
                    have hBW := hW0.lt
                    have zzP := hP
                    refine WC.drawG (G := fun d W => Chg B0 W57 W ∧ (d = false → Below W57.heap.size W57 W)) 8 4 (fun W W' => Chg B0 W W') [(some 80, .is u22), (some 81, .is (.int .i64 ((opnZ xs wt).length : Int))), (some 82, .is (.agg #[.int .i64 wt.id, .string wt.sec, .string wt.med, .string wt.whr, .string wt.tok, .int .i64 wt.att, .int .i64 wt.since, .int .i64 wt.wrong, .bool wt.shown, .int .i64 wt.sat])), (some 83, .by fun u W => NewS 10 W57.heap.size [encZ wt] u W), (some 84, .by fun u W => ∃ B', W14.heap.size ≤ B' ∧ OwS 10 W u (((opnZ xs wt).map encZ).take (reqAt (opnZ xs wt) wt.id) ++ ([encZ wt] ++ ((opnZ xs wt).map encZ).drop (reqAt (opnZ xs wt) wt.id))) B'), (some 85, .is (.pointer (some ⟨w.heap.size, 0, none⟩))), (some 86, .is (.int .i64 wt.id)), (some 4, .by fun u W => ∃ B', W14.heap.size ≤ B' ∧ OwS 10 W u (((opnZ xs wt).map encZ).take (reqAt (opnZ xs wt) wt.id) ++ ([encZ wt] ++ ((opnZ xs wt).map encZ).drop (reqAt (opnZ xs wt) wt.id))) B')] [[], [], [], [2], [0, 1, 3], [], [5], [4, 4, 0, 1, 2, 3, 4]] (by kernel_rfl) (by kernel_rfl) (by kernel_rfl) (by kernel_rfl) (by kernel_rfl) (by kernel_rfl) (by kernel_rfl) ⟨fun _ _ _ hb h => h.below hb, fun _ _ _ hb ⟨B', q1, q2⟩ => ⟨B', q1, q2.below hb⟩, fun _ _ _ hb ⟨B', q1, q2⟩ => ⟨B', q1, q2.below hb⟩, trivial⟩ [4, 7] (by decide) ⟨fun _ _ _ hk h => h.chg hk hBW, trivial⟩ (fun W h => ⟨Chg.of_below h, fun _ => h⟩) (fun d W W' h b => ⟨h.1.thenB b, fun e => (h.2 e).trans (b.mono h.1.size)⟩) (by show 4 < 8; decide) ?_ ?_
                    ·
                      refine DStepsG.cons (by decide) (fun d_ Wd hd => ?_) ?_
                      ·
                        have k3 := k3.chg hd.1 hne
                        exact DV.dr (dx_move rfl rfl) ⟨Below.refl _ _, rfl⟩
                      refine DStepsG.cons (by decide) (fun d_ Wd hd => ?_) ?_
                      ·
                        have k3 := k3.chg hd.1 hne
                        exact DV.dr (dx_move rfl rfl) ⟨Below.refl _ _, rfl⟩
                      refine DStepsG.cons (by decide) (fun d_ Wd hd => ?_) ?_
                      ·
                        have k3 := k3.chg hd.1 hne
                        exact DV.dr (dx_loadN rfl ty_agg_26_10 rfl k3.range rfl) ⟨Below.refl _ _, rfl⟩
                      refine DStepsG.cons (by decide) (fun d_ Wd hd => ?_) ?_
                      ·
                        exact (dx_lit1 (r := encZ wt) rfl ty_ap_22 (by decide) (by decide) rfl rfl rfl).mono (fun v W' h => ⟨h.2.1, NewS.of_own h.1 hd.1.size (by simp)⟩)
                      refine DStepsG.hit (fun Wd hd => ?_) ?_
                      ·
                        intro u16_3 p16_3
                        have hW1 := hW0.below (hd.2 rfl)
                        exact (dx_callA rfl Tryz.func35 rfl rfl rfl (insertOZ ((opnZ xs wt).map encZ) (encZ wt) (reqAt (opnZ xs wt) wt.id) W57.heap.size B0 _ _ _ Wd hat hW1 hBW p16_3 (by rw [List.length_map]; exact hra) (by rw [List.length_map]; omega) (oc_rowsX oc_Z (opnZ xs wt)) (oc_Z wt))).mono (fun v W' h => ⟨⟨h.2, hd.1.andThen h.2, fun e => by cases e⟩, by obtain ⟨B', k1, k2⟩ := h.1; refine ⟨B', ?_, k1⟩; rcases k2 with rfl | k2; exact hB0; exact Nat.le_trans (Nat.le_trans (Below.size zzP) hd.1.size) k2⟩)
                      refine DStepsG.cons (by decide) (fun d_ Wd hd => ?_) ?_
                      ·
                        have k3 := k3.chg hd.1 hne
                        exact DV.dr (dx_fld (o1 := 0) rfl ty_fld_26_0_0 rfl rfl) ⟨Below.refl _ _, rfl⟩
                      refine DStepsG.cons (by decide) (fun d_ Wd hd => ?_) ?_
                      ·
                        have k3 := k3.chg hd.1 hne
                        exact DV.dr (dx_load rfl ty_one_3 rfl (k3.cell (k := 0) rfl)) ⟨Below.refl _ _, rfl⟩
                      refine DStepsG.cons (by decide) (fun d_ Wd hd => ?_) ?_
                      ·
                        intro u16_4 p16_4 u16_4 p16_4 u16_3 p16_3 u16_4 p16_4
                        exact DV.dr (dx_assign rfl rfl) ⟨Below.refl _ _, p16_4⟩
                      exact trivial
                    ·
                      intro W66 hd
                      intro u16_3 p16_3 u16_4 p16_4
                      rintro u16_7 ⟨B16, q16, t16⟩
                      have hPt := (Below.trans zzP (hd.1.from_base hB0 (Below.size zzP)))
                      rw [ins_rowsZ] at t16
                      replace h1 := zh1
                      replace hM := zhM
                      replace k3 := zk3
                      replace hB := zhB
                      replace hL := zhL
                      have n67 : w.heap.size ≠ B16 := Nat.ne_of_lt (Nat.lt_of_lt_of_le k3.lt q16)
                      have l68 := Nat.le_trans hB.size q16
                      replace h1 := h1.more hPt q16
                      replace hM := hM.more hPt q16
                      replace k3 := k3.below hPt
                      replace hB := below_then hB hPt
                      replace hL := LL.cons (LL.below hL hPt) t16.lt
                      refine WL.val (dx_assign rfl rfl) rfl rfl ?_
                      refine WL.val (dx_assign rfl rfl) rfl rfl ?_
                      refine WL.val (dx_assign rfl rfl) rfl rfl ?_
                      refine WL.nil ?_
                      refine hK61 ?_
                      refine WC.ret fun a_ ha_ => ?_
                      exact hQ (cv_ret4 rfl (.tmp rfl) (.tmp rfl) (.tmp rfl) (.tmp rfl) (by have he : reqE xs wt = 0 := (by unfold reqE; rw [if_pos (show okReq xs wt from ⟨by first | assumption | simp_all, by first | assumption | simp_all, by first | assumption | simp_all, by first | assumption | simp_all⟩), if_neg (show ¬ 0 ≤ smAt xs wt by assumption), if_neg (by first | assumption | simp_all), if_neg (by assumption)]); have hl : reqL xs wt = ((opnZ xs wt).take (reqAt (opnZ xs wt) wt.id) ++ wt :: (opnZ xs wt).drop (reqAt (opnZ xs wt) wt.id)) := (by unfold reqL; rw [if_pos he, if_neg (show ¬ 0 ≤ smAt xs wt by assumption)]); have hi : reqI xs wt = wt.id := (by unfold reqI; rw [if_pos he, if_neg (show ¬ 0 ≤ smAt xs wt by assumption)]); have hs : reqS xs wt = true := (by unfold reqS; rw [if_pos he, if_neg (show ¬ 0 ≤ smAt xs wt by assumption)]); rw [he, hl, hi, hs]; exact ⟨_, rfl, t16.notin hL0 l68⟩) hB ha_)
                ·
                  replace c60 := of_decide_eq_false c60
                  refine WC.skip ?_
                  refine hK58 ?_
                  refine WC.seq fun K69 hK69 => ?_
                  have hat : idxX (gtP wt.id) (opnZ xs wt) 0 = (reqAt (opnZ xs wt) wt.id : Nat) := (by unfold reqAt; first | rw [if_pos (by omega)] | (rw [if_neg (by omega)]; omega))
                  have hra := reqAt_le (opnZ xs wt) wt.id
                  rcases hO with ⟨hn1, hn2, _⟩ | ⟨B0, hB0, hW0⟩
                  ·
                    have hat0 : idxX (gtP wt.id) (opnZ xs wt) 0 = 0 := by have e := congrArg List.length hn2; rw [List.length_map, List.length_nil] at e; omega
                    have zzP := hP
                    refine WC.drawM 8 [(some 80, .is (u22)), (some 81, .is (.int .i64 (idxX (gtP wt.id) (opnZ xs wt) 0))), (some 82, .is (.agg #[.int .i64 wt.id, .string wt.sec, .string wt.med, .string wt.whr, .string wt.tok, .int .i64 wt.att, .int .i64 wt.since, .int .i64 wt.wrong, .bool wt.shown, .int .i64 wt.sat])), (some 83, .by fun u W => NewS 10 W57.heap.size [encZ wt] u W), (some 84, .by fun u W => NewQ 10 W57.heap.size [encZ wt] u W), (some 85, .is (.pointer (some ⟨w.heap.size, 0, none⟩))), (some 86, .is (.int .i64 wt.id)), (some 4, .by fun u W => NewQ 10 W57.heap.size [encZ wt] u W)] [[], [], [], [2], [0, 1, 3], [], [5], [4, 4, 0, 1, 2, 3, 4]] (by kernel_rfl) (by kernel_rfl) (by kernel_rfl) (by kernel_rfl) (by kernel_rfl) (by kernel_rfl) (by kernel_rfl) ⟨fun _ _ _ hb h => h.below hb, fun _ _ _ hb h => h.below hb, fun _ _ _ hb h => h.below hb, trivial⟩ ?_ ?_
                    ·
                      refine DSteps.cons (fun Wd hd => ?_) ?_
                      ·
                        exact DV.dr (dx_move rfl rfl) ⟨Below.refl _ _, rfl⟩
                      refine DSteps.cons (fun Wd hd => ?_) ?_
                      ·
                        exact DV.dr (dx_move rfl rfl) ⟨Below.refl _ _, rfl⟩
                      refine DSteps.cons (fun Wd hd => ?_) ?_
                      ·
                        have k3 := k3.below hd
                        exact DV.dr (dx_loadN rfl ty_agg_26_10 rfl k3.range rfl) ⟨Below.refl _ _, rfl⟩
                      refine DSteps.cons (fun Wd hd => ?_) ?_
                      ·
                        exact (dx_lit1 (r := encZ wt) rfl ty_ap_22 (by decide) (by decide) rfl rfl rfl).mono (fun v W' h => ⟨h.2.1, NewS.of_own h.1 hd.size (by simp)⟩)
                      refine DSteps.cons (fun Wd hd => ?_) ?_
                      ·
                        intro u16_3 p16_3
                        exact (dx_callA rfl Tryz.func35 rfl rfl rfl (insertNZ (encZ wt) W57.heap.size _ _ _ Wd hat0 hn1 p16_3 hd.size)).mono (fun v W' h => ⟨h.2, by obtain ⟨B', k1, k2⟩ := h.1; exact ⟨B', Nat.le_trans hd.size k1, k2⟩⟩)
                      refine DSteps.cons (fun Wd hd => ?_) ?_
                      ·
                        exact DV.dr (dx_fld (o1 := 0) rfl ty_fld_26_0_0 rfl rfl) ⟨Below.refl _ _, rfl⟩
                      refine DSteps.cons (fun Wd hd => ?_) ?_
                      ·
                        have k3 := k3.below hd
                        exact DV.dr (dx_load rfl ty_one_3 rfl (k3.cell (k := 0) rfl)) ⟨Below.refl _ _, rfl⟩
                      refine DSteps.cons (fun Wd hd => ?_) ?_
                      ·
                        intro u16_4 p16_4 u16_4 p16_4 u16_3 p16_3 u16_4 p16_4
                        exact DV.dr (dx_assign rfl rfl) ⟨Below.refl _ _, p16_4⟩
                      exact trivial
                    ·
                      intro W70 b71
                      intro u16_3 p16_3
                      intro u16_4 p16_4
                      rintro u16_7 ⟨B16, q16, t16⟩
                      replace h1 := h1.below b71
                      replace hM := hM.below b71
                      replace hP := hP.below b71
                      replace hOr := hOr.below b71
                      replace k3 := k3.below b71
                      replace hB := below_then hB b71
                      replace hL := LL.below hL b71
                      have hPt := (Below.trans zzP (b71.mono (Below.size zzP)))
                      rw [show [encZ wt] = ((opnZ xs wt).take (reqAt (opnZ xs wt) wt.id) ++ wt :: (opnZ xs wt).drop (reqAt (opnZ xs wt) wt.id)).map encZ from by have e : (opnZ xs wt) = [] := List.map_eq_nil_iff.1 hn2; rw [e]; rfl] at t16
                      replace h1 := zh1
                      replace hM := zhM
                      replace k3 := zk3
                      replace hB := zhB
                      replace hL := zhL
                      have n72 : w.heap.size ≠ B16 := Nat.ne_of_lt (Nat.lt_of_lt_of_le k3.lt (Nat.le_trans (Below.size zzP) q16))
                      have l73 := Nat.le_trans hB.size (Nat.le_trans (Below.size zzP) q16)
                      replace h1 := h1.more hPt (Nat.le_trans (Below.size zzP) q16)
                      replace hM := hM.more hPt (Nat.le_trans (Below.size zzP) q16)
                      replace k3 := k3.below hPt
                      replace hB := below_then hB hPt
                      replace hL := LL.cons (LL.below hL hPt) t16.lt
                      refine WL.val (dx_assign rfl rfl) rfl rfl ?_
                      refine WL.val (dx_assign rfl rfl) rfl rfl ?_
                      refine WL.val (dx_assign rfl rfl) rfl rfl ?_
                      refine WL.nil ?_
                      refine hK69 ?_
                      refine WC.ret fun a_ ha_ => ?_
                      exact hQ (cv_ret4 rfl (.tmp rfl) (.tmp rfl) (.tmp rfl) (.tmp rfl) (by have he : reqE xs wt = 0 := (by unfold reqE; rw [if_pos (show okReq xs wt from ⟨by first | assumption | simp_all, by first | assumption | simp_all, by first | assumption | simp_all, by first | assumption | simp_all⟩), if_neg (show ¬ 0 ≤ smAt xs wt by assumption), if_neg (by first | assumption | simp_all), if_neg (by assumption)]); have hl : reqL xs wt = ((opnZ xs wt).take (reqAt (opnZ xs wt) wt.id) ++ wt :: (opnZ xs wt).drop (reqAt (opnZ xs wt) wt.id)) := (by unfold reqL; rw [if_pos he, if_neg (show ¬ 0 ≤ smAt xs wt by assumption)]); have hi : reqI xs wt = wt.id := (by unfold reqI; rw [if_pos he, if_neg (show ¬ 0 ≤ smAt xs wt by assumption)]); have hs : reqS xs wt = true := (by unfold reqS; rw [if_pos he, if_neg (show ¬ 0 ≤ smAt xs wt by assumption)]); rw [he, hl, hi, hs]; exact ⟨_, rfl, t16.notin hL0 l73⟩) hB ha_)
                  ·
                    have hne : w.heap.size ≠ B0 := Nat.ne_of_lt (Nat.lt_of_lt_of_le zk3.lt hB0)
                    have hBW := hW0.lt
                    have zzP := hP
                    refine WC.drawG (G := fun d W => Chg B0 W57 W ∧ (d = false → Below W57.heap.size W57 W)) 8 4 (fun W W' => Chg B0 W W') [(some 80, .is u22), (some 81, .is (.int .i64 (idxX (gtP wt.id) (opnZ xs wt) 0))), (some 82, .is (.agg #[.int .i64 wt.id, .string wt.sec, .string wt.med, .string wt.whr, .string wt.tok, .int .i64 wt.att, .int .i64 wt.since, .int .i64 wt.wrong, .bool wt.shown, .int .i64 wt.sat])), (some 83, .by fun u W => NewS 10 W57.heap.size [encZ wt] u W), (some 84, .by fun u W => ∃ B', W14.heap.size ≤ B' ∧ OwS 10 W u (((opnZ xs wt).map encZ).take (reqAt (opnZ xs wt) wt.id) ++ ([encZ wt] ++ ((opnZ xs wt).map encZ).drop (reqAt (opnZ xs wt) wt.id))) B'), (some 85, .is (.pointer (some ⟨w.heap.size, 0, none⟩))), (some 86, .is (.int .i64 wt.id)), (some 4, .by fun u W => ∃ B', W14.heap.size ≤ B' ∧ OwS 10 W u (((opnZ xs wt).map encZ).take (reqAt (opnZ xs wt) wt.id) ++ ([encZ wt] ++ ((opnZ xs wt).map encZ).drop (reqAt (opnZ xs wt) wt.id))) B')] [[], [], [], [2], [0, 1, 3], [], [5], [4, 4, 0, 1, 2, 3, 4]] (by kernel_rfl) (by kernel_rfl) (by kernel_rfl) (by kernel_rfl) (by kernel_rfl) (by kernel_rfl) (by kernel_rfl) ⟨fun _ _ _ hb h => h.below hb, fun _ _ _ hb ⟨B', q1, q2⟩ => ⟨B', q1, q2.below hb⟩, fun _ _ _ hb ⟨B', q1, q2⟩ => ⟨B', q1, q2.below hb⟩, trivial⟩ [4, 7] (by decide) ⟨fun _ _ _ hk h => h.chg hk hBW, trivial⟩ (fun W h => ⟨Chg.of_below h, fun _ => h⟩) (fun d W W' h b => ⟨h.1.thenB b, fun e => (h.2 e).trans (b.mono h.1.size)⟩) (by show 4 < 8; decide) ?_ ?_
                    ·
                      refine DStepsG.cons (by decide) (fun d_ Wd hd => ?_) ?_
                      ·
                        have k3 := k3.chg hd.1 hne
                        exact DV.dr (dx_move rfl rfl) ⟨Below.refl _ _, rfl⟩
                      refine DStepsG.cons (by decide) (fun d_ Wd hd => ?_) ?_
                      ·
                        have k3 := k3.chg hd.1 hne
                        exact DV.dr (dx_move rfl rfl) ⟨Below.refl _ _, rfl⟩
                      refine DStepsG.cons (by decide) (fun d_ Wd hd => ?_) ?_
                      ·
                        have k3 := k3.chg hd.1 hne
                        exact DV.dr (dx_loadN rfl ty_agg_26_10 rfl k3.range rfl) ⟨Below.refl _ _, rfl⟩
                      refine DStepsG.cons (by decide) (fun d_ Wd hd => ?_) ?_
                      ·
                        exact (dx_lit1 (r := encZ wt) rfl ty_ap_22 (by decide) (by decide) rfl rfl rfl).mono (fun v W' h => ⟨h.2.1, NewS.of_own h.1 hd.1.size (by simp)⟩)
                      refine DStepsG.hit (fun Wd hd => ?_) ?_
                      ·
                        intro u16_3 p16_3
                        have hW1 := hW0.below (hd.2 rfl)
                        exact (dx_callA rfl Tryz.func35 rfl rfl rfl (insertOZ ((opnZ xs wt).map encZ) (encZ wt) (reqAt (opnZ xs wt) wt.id) W57.heap.size B0 _ _ _ Wd hat hW1 hBW p16_3 (by rw [List.length_map]; exact hra) (by rw [List.length_map]; omega) (oc_rowsX oc_Z (opnZ xs wt)) (oc_Z wt))).mono (fun v W' h => ⟨⟨h.2, hd.1.andThen h.2, fun e => by cases e⟩, by obtain ⟨B', k1, k2⟩ := h.1; refine ⟨B', ?_, k1⟩; rcases k2 with rfl | k2; exact hB0; exact Nat.le_trans (Nat.le_trans (Below.size zzP) hd.1.size) k2⟩)
                      refine DStepsG.cons (by decide) (fun d_ Wd hd => ?_) ?_
                      ·
                        have k3 := k3.chg hd.1 hne
                        exact DV.dr (dx_fld (o1 := 0) rfl ty_fld_26_0_0 rfl rfl) ⟨Below.refl _ _, rfl⟩
                      refine DStepsG.cons (by decide) (fun d_ Wd hd => ?_) ?_
                      ·
                        have k3 := k3.chg hd.1 hne
                        exact DV.dr (dx_load rfl ty_one_3 rfl (k3.cell (k := 0) rfl)) ⟨Below.refl _ _, rfl⟩
                      refine DStepsG.cons (by decide) (fun d_ Wd hd => ?_) ?_
                      ·
                        intro u16_4 p16_4 u16_4 p16_4 u16_3 p16_3 u16_4 p16_4
                        exact DV.dr (dx_assign rfl rfl) ⟨Below.refl _ _, p16_4⟩
                      exact trivial
                    ·
                      intro W74 hd
                      intro u16_3 p16_3 u16_4 p16_4
                      rintro u16_7 ⟨B16, q16, t16⟩
                      have hPt := (Below.trans zzP (hd.1.from_base hB0 (Below.size zzP)))
                      rw [ins_rowsZ] at t16
                      replace h1 := zh1
                      replace hM := zhM
                      replace k3 := zk3
                      replace hB := zhB
                      replace hL := zhL
                      have n75 : w.heap.size ≠ B16 := Nat.ne_of_lt (Nat.lt_of_lt_of_le k3.lt q16)
                      have l76 := Nat.le_trans hB.size q16
                      replace h1 := h1.more hPt q16
                      replace hM := hM.more hPt q16
                      replace k3 := k3.below hPt
                      replace hB := below_then hB hPt
                      replace hL := LL.cons (LL.below hL hPt) t16.lt
                      refine WL.val (dx_assign rfl rfl) rfl rfl ?_
                      refine WL.val (dx_assign rfl rfl) rfl rfl ?_
                      refine WL.val (dx_assign rfl rfl) rfl rfl ?_
                      refine WL.nil ?_
                      refine hK69 ?_
                      refine WC.ret fun a_ ha_ => ?_
                      exact hQ (cv_ret4 rfl (.tmp rfl) (.tmp rfl) (.tmp rfl) (.tmp rfl) (by have he : reqE xs wt = 0 := (by unfold reqE; rw [if_pos (show okReq xs wt from ⟨by first | assumption | simp_all, by first | assumption | simp_all, by first | assumption | simp_all, by first | assumption | simp_all⟩), if_neg (show ¬ 0 ≤ smAt xs wt by assumption), if_neg (by first | assumption | simp_all), if_neg (by assumption)]); have hl : reqL xs wt = ((opnZ xs wt).take (reqAt (opnZ xs wt) wt.id) ++ wt :: (opnZ xs wt).drop (reqAt (opnZ xs wt) wt.id)) := (by unfold reqL; rw [if_pos he, if_neg (show ¬ 0 ≤ smAt xs wt by assumption)]); have hi : reqI xs wt = wt.id := (by unfold reqI; rw [if_pos he, if_neg (show ¬ 0 ≤ smAt xs wt by assumption)]); have hs : reqS xs wt = true := (by unfold reqS; rw [if_pos he, if_neg (show ¬ 0 ≤ smAt xs wt by assumption)]); rw [he, hl, hi, hs]; exact ⟨_, rfl, t16.notin hL0 l76⟩) hB ha_)

end Go.Proofs.YthllidchoodofaaGreatDoor
namespace Go.Proofs.YthllidchoodofaaGreatDoor
open Go.RowKit
set_option linter.unusedVariables false
set_option linter.unusedSimpArgs false
/-- The texts are as great as a memory bears. -/
def SzO (b : SesX) : Prop := b.sec.size ≤ 140737488355328 ∧ b.tok.size ≤ 140737488355328 ∧ b.whr.size ≤ 140737488355328
def SzZ (xs : List SesX) : Prop := ∀ b ∈ xs, SzO b
theorem SzZ.sub {xs ys : List SesX} (h : SzZ xs) (hs : ys.Sublist xs) : SzZ ys := fun b hb => h b (hs.mem hb)
theorem clash_eq {b r : SesX} {b1 b2 : Bool} (h1 : b1 = decide (b.sec = r.sec)) (h2 : b2 = (b1 && decide (b.med = r.med ∧ b.whr = r.whr))) : clashZ r b = (b2 || decide (b.tok = r.tok)) := by
  subst h1 h2
  rw [clash_comm]
  rfl
theorem clash_no {b r : SesX} {b1 b2 : Bool} (h1 : b1 = decide (b.sec = r.sec)) (h2 : b2 = (b1 && decide (b.med = r.med ∧ b.whr = r.whr))) (ha : ¬ b2 = true) (hc : ¬ b.tok = r.tok) : clashZ r b = false := by
  rw [clash_eq h1 h2, Bool.eq_false_iff.2 ha, decide_eq_false hc]
  rfl
theorem any_no {xs : List SesX} {r : SesX} {i : Nat} (h : ∀ m b, m < i → xs[m]? = some b → clashZ r b = false) : (xs.take i).any (clashZ r) = false := by
  refine List.any_eq_false.2 fun a ha => ?_
  obtain ⟨j, hj, rfl⟩ := List.getElem_of_mem ha
  rw [List.length_take] at hj
  rw [List.getElem_take, h j _ (by omega) (List.getElem?_eq_getElem (by omega))]
  decide
theorem any_yes {xs : List SesX} {r b : SesX} {i j : Nat} (hj : j < i) (hb : xs[j]? = some b) (h : clashZ r b = true) : (xs.take i).any (clashZ r) = true := by
  obtain ⟨hl, rfl⟩ := List.getElem?_eq_some_iff.1 hb
  refine List.any_eq_true.2 ⟨xs[j], ?_, h⟩
  rw [List.mem_iff_getElem]
  exact ⟨j, by rw [List.length_take]; omega, by rw [List.getElem_take]⟩
theorem live_yes {s : SesX} {now : Int} (h : now - s.since ≤ 86400) : liveZ now s = true := by
  unfold liveZ
  rw [decide_eq_false (by omega)]
  rfl
theorem live_no {s : SesX} {now : Int} (h : ¬ now - s.since ≤ 86400) : liveZ now s = false := by
  unfold liveZ
  rw [decide_eq_true (by omega)]
  rfl
theorem filt_yes {xs : List SesX} {now : Int} {i : Nat} {r : SesX} (h : xs[i]? = some r) (hl : now - r.since ≤ 86400) : (xs.take (i + 1)).filter (liveZ now) = (xs.take i).filter (liveZ now) ++ [r] := by
  rw [List.take_add_one, h, List.filter_append]
  simp only [Option.toList_some]
  rw [List.filter_cons, if_pos (live_yes hl)]
  rfl
theorem filt_no {xs : List SesX} {now : Int} {i : Nat} {r : SesX} (h : xs[i]? = some r) (hl : ¬ now - r.since ≤ 86400) : (xs.take (i + 1)).filter (liveZ now) = (xs.take i).filter (liveZ now) := by
  rw [List.take_add_one, h, List.filter_append]
  simp only [Option.toList_some]
  rw [List.filter_cons, if_neg (by rw [live_no hl]; decide)]
  simp
theorem filt_le (xs : List SesX) (now : Int) (i : Nat) : ((xs.take i).filter (liveZ now)).length ≤ xs.length := by
  have h1 := List.length_filter_le (liveZ now) (xs.take i)
  rw [List.length_take] at h1
  omega
theorem plP_eq {r wt : SesX} {now : Int} {b1 b2 : Bool} (h1 : b1 = decide (r.id = wt.id)) (h2 : b2 = (b1 && decide (r.sec = wt.sec))) : plP now wt r = (b2 && decide (now - r.since ≤ 86400)) := by
  subst h1 h2
  unfold plP
  have e : liveZ now r = decide (now - r.since ≤ 86400) := by
    by_cases h : now - r.since ≤ 86400
    · rw [live_yes h, decide_eq_true h]
    · rw [live_no h, decide_eq_false h]
  rw [e, Bool.and_assoc]
end Go.Proofs.YthllidchoodofaaGreatDoor
namespace Go.Proofs.YthllidchoodofaaGreatDoor
open Go.ChangeShapes Go.WideShapes Go.ChangeAt Go.RowKit
set_option linter.unusedVariables false
section
variable {P : Program} {H : Type} {enc : TypeId × Value → H} {W : World} {base : Nat} {sp : Nat → Bool} {held : Bool}
theorem rd_of_sliceD {α : Type} (en : α → List Value) (good : α → DataW H → Prop) {s : Nat} (hs : 0 < s) {t e : TypeId} {fuel : Nat} {cs : List Value} {x : DataW H × List MemPlace} (ht : P.underlying t = some (.slice e)) (hce : P.cellsOf e = s) (hl : ∀ a d, good a d → (en a).length = s)
    (hel : ∀ n cs x, DataW.trod enc P W base sp held n e cs = some x → ∃ a, cs = en a ∧ good a x.1) (h : DataW.trod enc P W base sp held fuel t cs = some x) : ∃ (v : Value) (xs : List α), cs = [v] ∧ RdF s [] W v (xs.map en) ∧ ∀ a ∈ xs, ∃ es sps d, x.1 = .slice es sps ∧ d ∈ es ∧ good a d := by
  rcases DataW.trod_slice ht h with ⟨rfl, _⟩ | ⟨a, len, cap, elems, rest, n, rfl, rfl, hxe, hb, hlc, hcm, hlen, hx, _⟩
  · exact ⟨_, [], rfl, RdF.nil hs, fun a ha => by cases ha⟩
  · obtain ⟨xs, hxl, hxs⟩ := choose_list (fun i (y : α) => (∃ d, d ∈ elems ∧ good y d.1) ∧ W.cells? base (a.add (i * s)) s = some (en y)) len (fun i hi => by
      have h1 := hx i hi
      rw [hce, List.getElem?_eq_getElem (by omega)] at h1
      obtain ⟨cs', h2, h3⟩ := Option.bind_eq_some_iff.1 h1
      obtain ⟨y, rfl, hg⟩ := hel n cs' _ h3
      exact ⟨y, ⟨_, List.getElem_mem _, hg⟩, h2⟩)
    have hgood : ∀ y ∈ xs, ∃ d, d ∈ elems ∧ good y d.1 := fun y hy => by
      obtain ⟨i, hi⟩ := List.getElem?_of_mem hy
      exact (hxs i y hi).1
    have hrl : ∀ r ∈ xs.map en, r.length = s := fun r hr => by
      obtain ⟨y, hy, rfl⟩ := List.mem_map.1 hr
      obtain ⟨d, _, hd⟩ := hgood y hy
      exact hl y _ hd
    refine ⟨_, xs, rfl, ⟨hs, hrl, some a, cap, by rw [List.length_map, hxl], by rw [List.length_map, hxl]; exact hlc, hcm, (fun e => by cases e), fun hn => ?_⟩, fun a ha => by
      obtain ⟨d, h1, h2⟩ := hgood a ha
      exact ⟨_, _, d.1, by rw [hxe], List.mem_map.2 ⟨d, h1, rfl⟩, h2⟩⟩
    have cellat : ∀ i y, xs[i]? = some y → ∀ j v, (en y)[j]? = some v → W.cell? ((a.add (i * s)).add j) = some v := fun i y hi j v hj => by
      have h2 := (hxs i y hi).2
      unfold World.cells? at h2
      split at h2
      · have hj' : j < s := by have := (List.getElem?_eq_some_iff.1 hj).1; obtain ⟨d, _, hd⟩ := (hxs i y hi).1; rw [hl y _ hd] at this; exact this
        have := mapM_some_get h2 j j (by simp [hj'])
        rw [this]; exact hj
      · cases h2
    have hne : 0 < xs.length := by
      rcases Nat.eq_zero_or_pos xs.length with h0 | h0
      · exact absurd (by rw [List.length_eq_zero_iff.1 h0]; rfl) hn
      · exact h0
    have hx0 : xs[0]? = some xs[0] := List.getElem?_eq_getElem hne
    have hspot : a.spot = none := by
      have hlen0 : 0 < (en xs[0]).length := by obtain ⟨d, _, hd⟩ := (hxs 0 _ hx0).1; rw [hl _ _ hd]; exact hs
      have := cellat 0 _ hx0 0 _ (List.getElem?_eq_getElem hlen0)
      have h3 := World.cell?_spot this
      have e0 : (a.add (0 * s)).add 0 = a := by simp [Addr.add]
      rw [e0] at h3
      exact h3
    obtain ⟨b, off, spot⟩ := a
    simp only at hspot
    subst hspot
    refine ⟨b, off, rfl, by simp, range_flat _ off hrl fun i r hi => ?_⟩
    rw [List.getElem?_map] at hi
    cases hy : xs[i]? with
    | none => rw [hy] at hi; cases hi
    | some y =>
      rw [hy] at hi
      cases hi
      intro j v hj
      have := cellat i y hy j v hj
      rw [addr_at, addr_at] at this
      exact this
theorem weights_all {e : TypeId} {n : Nat} {d : DataW H} : ∀ {es : List (DataW H)}, d ∈ es → n ∈ d.weights P e → n ∈ DataW.weightsAll P e es
  | x :: l, hd, hn => by
    rw [DataW.weightsAll]
    rcases List.mem_cons.1 hd with rfl | hd
    · exact List.mem_append_left _ hn
    · exact List.mem_append_right _ (weights_all hd hn)
theorem weights_slice {t e : TypeId} {n : Nat} {d : DataW H} {es sps : List (DataW H)} (ht : P.underlying t = some (.slice e)) (hd : d ∈ es) (hn : n ∈ d.weights P e) : n ∈ (DataW.slice es sps).weights P t := by
  rw [DataW.weights, ht]
  exact List.mem_cons_of_mem _ (List.mem_append_left _ (weights_all hd hn))
end
end Go.Proofs.YthllidchoodofaaGreatDoor
namespace Go.Proofs.YthllidchoodofaaGreatDoor
open Go.ChangeShapes Go.WideShapes Go.ChangeAt Go.RowKit
set_option linter.unusedVariables false
set_option maxRecDepth 8000
theorem own : ownKnob Tryz.prog.godebug = none := by kernel_rfl
theorem laidOut : laidOutB Tryz.prog = true := by kernel_rfl
theorem cB : Tryz.prog.cellsOf 26 = 10 := by kernel_rfl
theorem cA : Tryz.prog.cellsOf 24 = 2 := by kernel_rfl
theorem cT : Tryz.prog.cellsOf 9 = 1 := by kernel_rfl
theorem cI : Tryz.prog.cellsOf 3 = 1 := by kernel_rfl
theorem cL : Tryz.prog.cellsOf 4 = 1 := by kernel_rfl
section
variable {H : Type} {enc : TypeId × Value → H} {W : World} {base : Nat} {sp : Nat → Bool} {held : Bool}
theorem el_A (n : Nat) (cs : List Value) (x : DataW H × List MemPlace) (h : DataW.trod enc Tryz.prog W base sp held n 24 cs = some x) : ∃ a b : ByteArray, cs = [.string a, .string b] ∧ b.size ∈ x.1.weights Tryz.prog 24 := by
  obtain ⟨y0, y1, m, rfl, hl, h0, h1⟩ := trod_struct2 Tryz.underlying24 h
  rw [cA] at hl
  match cs, hl with
  | [c, d], _ =>
    obtain ⟨a, ha, _, _⟩ := DataW.trod_string Tryz.underlying9 h0
    obtain ⟨b, hb, rfl, _⟩ := DataW.trod_string Tryz.underlying9 h1
    simp only [cT] at ha hb
    simp at ha hb
    exact ⟨a, b, by rw [ha, hb], by simp [DataW.weights, DataW.weightsEach, Tryz.underlying24]⟩
theorem el_Z (n : Nat) (cs : List Value) (x : DataW H × List MemPlace) (h : DataW.trod enc Tryz.prog W base sp held n 26 cs = some x) : ∃ b : SesX, cs = encZ b ∧ (b.sec.size ∈ x.1.weights Tryz.prog 26 ∧ b.tok.size ∈ x.1.weights Tryz.prog 26 ∧ b.whr.size ∈ x.1.weights Tryz.prog 26) := by
  obtain ⟨xs, m, _, rfl, hl, hlen, hf⟩ := DataW.trod_struct Tryz.underlying26 h
  rw [cB] at hl
  match xs, hlen, cs, hl with
  | [y0, y1, y2, y3, y4, y5, y6, y7, y8], _, [c0, c1, c2, c3, c4, c5, c6, c7, c8, c9], _ =>
    have h0 : DataW.trod enc Tryz.prog W base sp held m 3 (([c0, c1, c2, c3, c4, c5, c6, c7, c8, c9].drop 0).take (Tryz.prog.cellsOf 3)) = some y0 := hf 0 _ rfl
    have h1 : DataW.trod enc Tryz.prog W base sp held m 9 (([c0, c1, c2, c3, c4, c5, c6, c7, c8, c9].drop 1).take (Tryz.prog.cellsOf 9)) = some y1 := hf 1 _ rfl
    have h2 : DataW.trod enc Tryz.prog W base sp held m 24 (([c0, c1, c2, c3, c4, c5, c6, c7, c8, c9].drop 2).take (Tryz.prog.cellsOf 24)) = some y2 := hf 2 _ rfl
    have h3 : DataW.trod enc Tryz.prog W base sp held m 9 (([c0, c1, c2, c3, c4, c5, c6, c7, c8, c9].drop 4).take (Tryz.prog.cellsOf 9)) = some y3 := hf 3 _ rfl
    have h4 : DataW.trod enc Tryz.prog W base sp held m 3 (([c0, c1, c2, c3, c4, c5, c6, c7, c8, c9].drop 5).take (Tryz.prog.cellsOf 3)) = some y4 := hf 4 _ rfl
    have h5 : DataW.trod enc Tryz.prog W base sp held m 3 (([c0, c1, c2, c3, c4, c5, c6, c7, c8, c9].drop 6).take (Tryz.prog.cellsOf 3)) = some y5 := hf 5 _ rfl
    have h6 : DataW.trod enc Tryz.prog W base sp held m 3 (([c0, c1, c2, c3, c4, c5, c6, c7, c8, c9].drop 7).take (Tryz.prog.cellsOf 3)) = some y6 := hf 6 _ rfl
    have h7 : DataW.trod enc Tryz.prog W base sp held m 4 (([c0, c1, c2, c3, c4, c5, c6, c7, c8, c9].drop 8).take (Tryz.prog.cellsOf 4)) = some y7 := hf 7 _ rfl
    have h8 : DataW.trod enc Tryz.prog W base sp held m 3 (([c0, c1, c2, c3, c4, c5, c6, c7, c8, c9].drop 9).take (Tryz.prog.cellsOf 3)) = some y8 := hf 8 _ rfl
    obtain ⟨a0, e0, _⟩ := DataW.trod_int Tryz.underlying3 h0
    obtain ⟨a1, e1, q1, _⟩ := DataW.trod_string Tryz.underlying9 h1
    have w1 : a1.size ∈ y1.1.weights Tryz.prog 9 := by rw [q1]; simp [DataW.weights]
    obtain ⟨a2, b2, e2, hw⟩ := el_A m _ _ h2
    obtain ⟨a3, e3, q3, _⟩ := DataW.trod_string Tryz.underlying9 h3
    have w3 : a3.size ∈ y3.1.weights Tryz.prog 9 := by rw [q3]; simp [DataW.weights]
    obtain ⟨a4, e4, _⟩ := DataW.trod_int Tryz.underlying3 h4
    obtain ⟨a5, e5, _⟩ := DataW.trod_int Tryz.underlying3 h5
    obtain ⟨a6, e6, _⟩ := DataW.trod_int Tryz.underlying3 h6
    obtain ⟨a7, e7, _⟩ := DataW.trod_bool Tryz.underlying4 h7
    obtain ⟨a8, e8, _⟩ := DataW.trod_int Tryz.underlying3 h8
    simp only [cA, cT, cI, cL] at e0 e1 e2 e3 e4 e5 e6 e7 e8
    simp at e0 e1 e2 e3 e4 e5 e6 e7 e8
    exact ⟨⟨a0, a1, a2, b2, a3, a4, a5, a6, a7, a8⟩, by simp [encZ, e0, e1, e2, e3, e4, e5, e6, e7, e8], by
      simp only [DataW.weights, Tryz.underlying26]
      simp only [DataW.weightsEach, List.map_cons, List.mem_append]
      exact ⟨.inr (.inl w1), .inr (.inr (.inr (.inl w3))), .inr (.inr (.inl hw))⟩⟩
theorem open_ses {v : Value} {d : DataW H} {p : List MemPlace} (h0 : DataW.Trod enc Tryz.prog W base sp held 26 v d p) : ∃ b : SesX, v = .agg (encZ b).toArray ∧ (b.sec.size ∈ d.weights Tryz.prog 26 ∧ b.tok.size ∈ d.weights Tryz.prog 26 ∧ b.whr.size ∈ d.weights Tryz.prog 26) := by
  obtain ⟨fuel, hf⟩ := h0
  obtain ⟨b, e, hw⟩ := el_Z fuel _ _ hf
  cases v with
  | agg cs =>
    simp only [Value.cells] at e
    exact ⟨b, by rw [← e], hw⟩
  | _ => simp [Value.cells, encZ] at e
theorem open_sess {r : Reach} {b0 : Nat} {v : Value} {d : DataW H} {p : List MemPlace} (hv : Value.okWide Tryz.prog W r b0 22 v) (h : DataW.Trod enc Tryz.prog W base sp held 22 v d p) (hw : ∀ n ∈ d.weights Tryz.prog 22, n ≤ reachBytes) : ∃ xs : List SesX, RdF 10 [] W v (xs.map encZ) ∧ SzZ xs := by
  obtain ⟨a, len, cap, rfl⟩ := okWide_slice Tryz.underlying22 hv
  obtain ⟨fuel, hf⟩ := h
  obtain ⟨v, xs, e, r, g⟩ := rd_of_sliceD (s := 10) encZ (fun b d => b.sec.size ∈ d.weights Tryz.prog 26 ∧ b.tok.size ∈ d.weights Tryz.prog 26 ∧ b.whr.size ∈ d.weights Tryz.prog 26) (by decide) Tryz.underlying22 cB (fun _ _ _ => rfl) el_Z hf
  simp [Value.cells] at e
  subst e
  refine ⟨xs, r, fun b hb => ?_⟩
  obtain ⟨es, sps, d', h1, h2, h3⟩ := g b hb
  have key : ∀ n ∈ d'.weights Tryz.prog 26, n ≤ 140737488355328 := fun n hn => by
    have := hw n (by simp only at h1; rw [h1]; exact weights_slice Tryz.underlying22 h2 hn)
    unfold reachBytes at this
    omega
  exact ⟨key _ h3.1, key _ h3.2.1, key _ h3.2.2⟩
end
end Go.Proofs.YthllidchoodofaaGreatDoor
namespace Go.Proofs.YthllidchoodofaaGreatDoor
open Go.RowKit
set_option linter.unusedVariables false
set_option linter.unusedSimpArgs false
set_option maxRecDepth 8000

section
variable {P : Program} {ops : Array Oper} {o : Oper} {N : Nat} {f : Fl} {w : World}
theorem eqFields_refl (d : Nat) (xs : Array Value) : ∀ fs : List Field, (∀ f ∈ fs, ∃ v, (part f.type xs f.offset).run P w = .ok v w ∧ (Op.equalIn d f.type v v).run P w = .ok true w) → (Op.eqFields d xs xs fs).run P w = .ok true w
  | [], _ => by simp [Op.eqFields]
  | g :: fs, h => by
    obtain ⟨v, h1, h2⟩ := h g (.head _)
    have h3 := eqFields_refl d xs fs (fun f hf => h f (.tail _ hf))
    unfold Op.eqFields
    split
    · simp only [Sem.run_bind, h1, Result.andThen_ok, h2, Bool.not_true, Bool.false_eq_true, if_false]
      exact h3
    · exact h3
def oneU : TypeDesc → Bool
  | .struct _ => false
  | .array _ _ => false
  | _ => true
theorem part_one {t k : Nat} {xs : Array Value} {v : Value} {d : TypeDesc} (hu : P.underlying t = some d) (hd : oneU d = true) (hv : xs[k]? = some v) : (part t xs k).run P w = .ok v w := by
  have hagg : (isAgg t).run P w = .ok false w := by
    unfold isAgg
    rw [Sem.run_bind, run_underlying hu w]
    cases d <;> simp_all [oneU]
  simp [part, Sem.run_bind, hagg, hv]
theorem run_eqAdR9 (a b : ByteArray) : (Op.equalIn 9999 24 (.agg #[.string a, .string b]) (.agg #[.string a, .string b])).run Tryz.prog w = .ok true w := by
  rw [show (9999 : Nat) = 9998 + 1 from rfl, run_equalIn_struct w 9998 24 _ _ (by kernel_rfl) (by kernel_rfl)]
  obtain ⟨f0, f1, hfs, h0, h1⟩ := two_mapX fieldsAd
  rw [hfs]
  simp only [Prod.mk.injEq] at h0 h1
  obtain ⟨n0, t0, o0⟩ := h0
  obtain ⟨n1, t1, o1⟩ := h1
  refine eqFields_refl 9998 _ [f0, f1] fun f hf => ?_
  have e0 := run_equalIn_string (P := Tryz.prog) (w := w) 9997 9 a a Tryz.underlying9
  have e1 := run_equalIn_string (P := Tryz.prog) (w := w) 9997 9 b b Tryz.underlying9
  rw [beq_self_eq_true] at e0 e1
  rcases List.mem_cons.1 hf with rfl | hf
  · rw [t0, o0]; exact ⟨_, (run_partAd a b).1, e0⟩
  · rw [List.mem_singleton.1 hf, t1, o1]; exact ⟨_, (run_partAd a b).2, e1⟩
theorem partAdZ (p : SesX) : (part 24 #[.int .i64 p.id, .string p.sec, .string p.med, .string p.whr, .string p.tok, .int .i64 p.att, .int .i64 p.since, .int .i64 p.wrong, .bool p.shown, .int .i64 p.sat] 2).run Tryz.prog w = .ok (.agg #[.string p.med, .string p.whr]) w := by
  have g0 : (isAgg 24).run Tryz.prog w = .ok true w := by
    unfold isAgg
    rw [Sem.run_bind, run_underlying Tryz.underlying24 w]; rfl
  obtain ⟨i, hi, hs⟩ := of_sizeB (show sizeB Tryz.prog 24 2 = true by kernel_rfl)
  simp [part, Sem.run_bind, g0, sizeOf, typeInfo, run_program, hi, hs]
theorem fieldsZ : (Tryz.prog.fieldsOf 26).toList.map (fun f => (f.type, f.offset)) = [(3, 0), (9, 1), (24, 2), (9, 4), (3, 5), (3, 6), (3, 7), (4, 8), (3, 9)] := by kernel_rfl
theorem run_eqZR (p : SesX) : (Op.equalIn 10000 26 (.agg #[.int .i64 p.id, .string p.sec, .string p.med, .string p.whr, .string p.tok, .int .i64 p.att, .int .i64 p.since, .int .i64 p.wrong, .bool p.shown, .int .i64 p.sat]) (.agg #[.int .i64 p.id, .string p.sec, .string p.med, .string p.whr, .string p.tok, .int .i64 p.att, .int .i64 p.since, .int .i64 p.wrong, .bool p.shown, .int .i64 p.sat])).run Tryz.prog w = .ok true w := by
  rw [show (10000 : Nat) = 9999 + 1 from rfl, run_equalIn_struct w 9999 26 _ _ (by kernel_rfl) (by kernel_rfl)]
  refine eqFields_refl 9999 _ _ fun f hf => ?_
  have hm : (f.type, f.offset) ∈ [(3, 0), (9, 1), (24, 2), (9, 4), (3, 5), (3, 6), (3, 7), (4, 8), (3, 9)] := by rw [← fieldsZ]; exact List.mem_map.2 ⟨f, hf, rfl⟩
  generalize f.type = t at hm ⊢
  generalize f.offset = k at hm ⊢
  simp only [List.mem_cons, Prod.mk.injEq, List.not_mem_nil, or_false] at hm
  rcases hm with ⟨rfl, rfl⟩ | ⟨rfl, rfl⟩ | ⟨rfl, rfl⟩ | ⟨rfl, rfl⟩ | ⟨rfl, rfl⟩ | ⟨rfl, rfl⟩ | ⟨rfl, rfl⟩ | ⟨rfl, rfl⟩ | ⟨rfl, rfl⟩
  · exact ⟨.int .i64 p.id, part_one Tryz.underlying3 rfl rfl, by have := run_equalIn_int (P := Tryz.prog) (w := w) 9998 3 .i64 .i64 p.id p.id Tryz.underlying3; rwa [beq_self_eq_true] at this⟩
  · exact ⟨.string p.sec, part_one Tryz.underlying9 rfl rfl, by have := run_equalIn_string (P := Tryz.prog) (w := w) 9998 9 p.sec p.sec Tryz.underlying9; rwa [beq_self_eq_true] at this⟩
  · exact ⟨.agg #[.string p.med, .string p.whr], partAdZ p, run_eqAdR9 p.med p.whr⟩
  · exact ⟨.string p.tok, part_one Tryz.underlying9 rfl rfl, by have := run_equalIn_string (P := Tryz.prog) (w := w) 9998 9 p.tok p.tok Tryz.underlying9; rwa [beq_self_eq_true] at this⟩
  · exact ⟨.int .i64 p.att, part_one Tryz.underlying3 rfl rfl, by have := run_equalIn_int (P := Tryz.prog) (w := w) 9998 3 .i64 .i64 p.att p.att Tryz.underlying3; rwa [beq_self_eq_true] at this⟩
  · exact ⟨.int .i64 p.since, part_one Tryz.underlying3 rfl rfl, by have := run_equalIn_int (P := Tryz.prog) (w := w) 9998 3 .i64 .i64 p.since p.since Tryz.underlying3; rwa [beq_self_eq_true] at this⟩
  · exact ⟨.int .i64 p.wrong, part_one Tryz.underlying3 rfl rfl, by have := run_equalIn_int (P := Tryz.prog) (w := w) 9998 3 .i64 .i64 p.wrong p.wrong Tryz.underlying3; rwa [beq_self_eq_true] at this⟩
  · exact ⟨.bool p.shown, part_one Tryz.underlying4 rfl rfl, by have := run_equalIn_bool' (P := Tryz.prog) (w := w) 9998 4 p.shown p.shown Tryz.underlying4; rwa [beq_self_eq_true] at this⟩
  · exact ⟨.int .i64 p.sat, part_one Tryz.underlying3 rfl rfl, by have := run_equalIn_int (P := Tryz.prog) (w := w) 9998 3 .i64 .i64 p.sat p.sat Tryz.underlying3; rwa [beq_self_eq_true] at this⟩
theorem dx_neZR {t' : TypeId} {x y : Operand} {p : SesX} (ho : o.op = .binOp .neq 26 x y t') (hx : ev f x = some (.agg #[.int .i64 p.id, .string p.sec, .string p.med, .string p.whr, .string p.tok, .int .i64 p.att, .int .i64 p.since, .int .i64 p.wrong, .bool p.shown, .int .i64 p.sat])) (hy : ev f y = some (.agg #[.int .i64 p.id, .string p.sec, .string p.med, .string p.whr, .string p.tok, .int .i64 p.att, .int .i64 p.since, .int .i64 p.wrong, .bool p.shown, .int .i64 p.sat])) (hw : wantF ops o f = some true := by rfl) : DV Tryz.prog ops o N f w (.bool false) := fun k ha => by
  have hx := ha.ev hx
  have hy := ha.ev hy
  have hg : Tryz.prog.eqGuardType Tryz.prog.depth 26 = false := by kernel_rfl
  have hgd : (eqGuard .neq 26 x y (.agg #[.int .i64 p.id, .string p.sec, .string p.med, .string p.whr, .string p.tok, .int .i64 p.att, .int .i64 p.since, .int .i64 p.wrong, .bool p.shown, .int .i64 p.sat]) (.agg #[.int .i64 p.id, .string p.sec, .string p.med, .string p.whr, .string p.tok, .int .i64 p.att, .int .i64 p.since, .int .i64 p.wrong, .bool p.shown, .int .i64 p.sat])).run Tryz.prog w = .ok () w := by
    simp [eqGuard, Sem.run_bind, hg]
  have e1 : binOp .neq 26 (.agg #[.int .i64 p.id, .string p.sec, .string p.med, .string p.whr, .string p.tok, .int .i64 p.att, .int .i64 p.since, .int .i64 p.wrong, .bool p.shown, .int .i64 p.sat]) (.agg #[.int .i64 p.id, .string p.sec, .string p.med, .string p.whr, .string p.tok, .int .i64 p.att, .int .i64 p.since, .int .i64 p.wrong, .bool p.shown, .int .i64 p.sat]) = (do pure (.bool (!(← Op.equal 26 (.agg #[.int .i64 p.id, .string p.sec, .string p.med, .string p.whr, .string p.tok, .int .i64 p.att, .int .i64 p.since, .int .i64 p.wrong, .bool p.shown, .int .i64 p.sat]) (.agg #[.int .i64 p.id, .string p.sec, .string p.med, .string p.whr, .string p.tok, .int .i64 p.att, .int .i64 p.since, .int .i64 p.wrong, .bool p.shown, .int .i64 p.sat]))))) := rfl
  have e2 : (Op.equal 26 (.agg #[.int .i64 p.id, .string p.sec, .string p.med, .string p.whr, .string p.tok, .int .i64 p.att, .int .i64 p.since, .int .i64 p.wrong, .bool p.shown, .int .i64 p.sat]) (.agg #[.int .i64 p.id, .string p.sec, .string p.med, .string p.whr, .string p.tok, .int .i64 p.att, .int .i64 p.since, .int .i64 p.wrong, .bool p.shown, .int .i64 p.sat])).run Tryz.prog w = .ok true w := run_eqZR p
  exact Does.pure (wantF_of ha hw) _ (by unfold execOp; simp only [ho, hx, hy, Sem.run_bind, hgd, Result.andThen_ok, e1, e2, Sem.run_pure, Bool.not_true]) ⟨rfl, rfl⟩
theorem dx_eqZR {t' : TypeId} {x y : Operand} {p : SesX} (ho : o.op = .binOp .eql 26 x y t') (hx : ev f x = some (.agg #[.int .i64 p.id, .string p.sec, .string p.med, .string p.whr, .string p.tok, .int .i64 p.att, .int .i64 p.since, .int .i64 p.wrong, .bool p.shown, .int .i64 p.sat])) (hy : ev f y = some (.agg #[.int .i64 p.id, .string p.sec, .string p.med, .string p.whr, .string p.tok, .int .i64 p.att, .int .i64 p.since, .int .i64 p.wrong, .bool p.shown, .int .i64 p.sat])) (hw : wantF ops o f = some true := by rfl) : DV Tryz.prog ops o N f w (.bool true) := fun k ha => by
  have hx := ha.ev hx
  have hy := ha.ev hy
  have hg : Tryz.prog.eqGuardType Tryz.prog.depth 26 = false := by kernel_rfl
  have hgd : (eqGuard .eql 26 x y (.agg #[.int .i64 p.id, .string p.sec, .string p.med, .string p.whr, .string p.tok, .int .i64 p.att, .int .i64 p.since, .int .i64 p.wrong, .bool p.shown, .int .i64 p.sat]) (.agg #[.int .i64 p.id, .string p.sec, .string p.med, .string p.whr, .string p.tok, .int .i64 p.att, .int .i64 p.since, .int .i64 p.wrong, .bool p.shown, .int .i64 p.sat])).run Tryz.prog w = .ok () w := by
    simp [eqGuard, Sem.run_bind, hg]
  have e1 : binOp .eql 26 (.agg #[.int .i64 p.id, .string p.sec, .string p.med, .string p.whr, .string p.tok, .int .i64 p.att, .int .i64 p.since, .int .i64 p.wrong, .bool p.shown, .int .i64 p.sat]) (.agg #[.int .i64 p.id, .string p.sec, .string p.med, .string p.whr, .string p.tok, .int .i64 p.att, .int .i64 p.since, .int .i64 p.wrong, .bool p.shown, .int .i64 p.sat]) = (do pure (.bool (← Op.equal 26 (.agg #[.int .i64 p.id, .string p.sec, .string p.med, .string p.whr, .string p.tok, .int .i64 p.att, .int .i64 p.since, .int .i64 p.wrong, .bool p.shown, .int .i64 p.sat]) (.agg #[.int .i64 p.id, .string p.sec, .string p.med, .string p.whr, .string p.tok, .int .i64 p.att, .int .i64 p.since, .int .i64 p.wrong, .bool p.shown, .int .i64 p.sat])))) := rfl
  have e2 : (Op.equal 26 (.agg #[.int .i64 p.id, .string p.sec, .string p.med, .string p.whr, .string p.tok, .int .i64 p.att, .int .i64 p.since, .int .i64 p.wrong, .bool p.shown, .int .i64 p.sat]) (.agg #[.int .i64 p.id, .string p.sec, .string p.med, .string p.whr, .string p.tok, .int .i64 p.att, .int .i64 p.since, .int .i64 p.wrong, .bool p.shown, .int .i64 p.sat])).run Tryz.prog w = .ok true w := run_eqZR p
  exact Does.pure (wantF_of ha hw) _ (by unfold execOp; simp only [ho, hx, hy, Sem.run_bind, hgd, Result.andThen_ok, e1, e2, Sem.run_pure, Bool.not_true]) ⟨rfl, rfl⟩
theorem dx_fieldAdZ {x : Operand} {p : SesX} (ho : o.op = .field 26 x 2) (hx : ev f x = some (.agg #[.int .i64 p.id, .string p.sec, .string p.med, .string p.whr, .string p.tok, .int .i64 p.att, .int .i64 p.since, .int .i64 p.wrong, .bool p.shown, .int .i64 p.sat])) (hw : wantF ops o f = some true := by rfl) : DV Tryz.prog ops o N f w (.agg #[.string p.med, .string p.whr]) := fun k ha => by
  have hx := ha.ev hx
  obtain ⟨fs, hu, fd, h1, h2⟩ : ∃ fs, Tryz.prog.underlying 26 = some (.struct fs) ∧ ∃ fd : Field, fs[2]? = some fd ∧ (fd.type = 24 ∧ fd.offset = 2) := ⟨_, Tryz.underlying26, _, rfl, rfl, rfl⟩
  exact Does.pure (wantF_of ha hw) _ (by unfold execOp; simp only [ho, hx, Instr.field, Sem.run_bind, run_underlying hu, Result.andThen_ok, h1, h2.1, h2.2, asAgg, Sem.run_pure, partAdZ]) ⟨rfl, rfl⟩
end
set_option maxHeartbeats 1000000 in
theorem sameL_v (xs : List SesX) (sv sv2 : Value) (w : World) (L : List Nat) (hL : LL L w) (h1 : RdF 10 L w sv (xs.map encZ)) (h3 : RdF 10 L w sv2 (xs.map encZ)) : CV Tryz.prog 12 [sv, sv2] w fun v W => v = .bool true := by
  refine cv_enter (N := 26) (f := [(0, sv), (1, sv2)]) Tryz.func12 rfl rfl rfl rfl fun Q hQ hE => ?_
  have hB := Below.refl w.heap.size w
  have h1m : xs.length ≤ maxLen := by have := h1.len; rwa [List.length_map] at this
  unfold maxLen at h1m
  have h3m : xs.length ≤ maxLen := by have := h3.len; rwa [List.length_map] at this
  unfold maxLen at h3m
  refine WC.seq fun K1 hK1 => ?_
  refine WC.region ?_
  refine WL.val (dx_assign rfl rfl) rfl rfl ?_
  refine WL.nil ?_
  refine hK1 ?_
  refine WC.seq fun K2 hK2 => ?_
  refine WC.seq fun K3 hK3 => ?_
  refine WC.region ?_
  refine WL.val (dx_move rfl rfl) rfl rfl ?_
  refine WL.val (dx_lenX rfl ty_slice_22 rfl h1) rfl rfl ?_
  refine WL.val (dx_move rfl rfl) rfl rfl ?_
  refine WL.val (dx_lenX rfl ty_slice_22 rfl h3) rfl rfl ?_
  refine WL.val (dx_neq rfl rfl rfl) rfl rfl ?_
  refine WL.nil ?_
  refine hK3 ?_
  refine WC.cond rfl (fun c4 => ?_) (fun c4 => ?_)
  ·
    replace c4 := bnot_t c4
    exact absurd rfl (of_decide_eq_false c4)
  ·
    replace c4 := bnot_f c4
    replace c4 := of_decide_eq_true c4
    refine WC.skip ?_
    refine hK2 ?_
    refine WC.seq fun K5 hK5 => ?_
    refine WC.seq fun K6 hK6 => ?_
    refine WC.region ?_
    refine WL.val (dx_assign rfl rfl) rfl rfl ?_
    refine WL.nil ?_
    refine hK6 ?_
    refine WC.block ?_
    refine WC.loop (fun (i : Nat) => [(0, sv), (1, sv2), (4, .bool false), (5, .int .i64 (i : Int))]) (fun (i : Nat) W => i ≤ xs.length ∧ Below w.heap.size w W ∧ LL (L) W ∧ RdF 10 (L) W sv (xs.map encZ) ∧ RdF 10 (L) W sv2 (xs.map encZ)) (fun (i : Nat) => xs.length - i) 0 (by repeat first | exact trivial | exact And.intro rfl trivial | refine And.intro rfl ?_ | refine And.intro (congrArg (fun z : Int => some (Value.int .i64 z)) (by omega)) ?_) ⟨Nat.zero_le _, hB, hL, h1, h3⟩ ?_
    clear h1 h3 hB hL
    rintro K7 i W8 ⟨hi, hB, hL, h1, h3⟩ hK7
    refine WC.seq fun K9 hK9 => ?_
    refine WC.seq fun K10 hK10 => ?_
    refine WC.region ?_
    refine WL.val (dx_move rfl rfl) rfl rfl ?_
    refine WL.val (dx_move rfl rfl) rfl rfl ?_
    refine WL.val (dx_lenX rfl ty_slice_22 rfl h1) rfl rfl ?_
    refine WL.val (dx_lss rfl rfl rfl) rfl rfl ?_
    refine WL.nil ?_
    refine hK10 ?_
    refine WC.cond rfl (fun c11 => ?_) (fun c11 => ?_)
    ·
      replace c11 := of_decide_eq_true c11
      refine WC.skip ?_
      refine hK9 ?_
      refine WC.seq fun K12 hK12 => ?_
      refine WC.block ?_
      refine WC.seq fun K13 hK13 => ?_
      obtain ⟨r14, e15⟩ : ∃ x, xs[i]? = some x := ⟨_, List.getElem?_eq_getElem (by omega)⟩
      refine WC.drawM 8 [(some 17, .is (sv)), (some 18, .is (.int .i64 (i : Int))), (some 19, .by fun u W => PtR (L) W u (encZ r14)), (some 20, .is (.agg #[.int .i64 r14.id, .string r14.sec, .string r14.med, .string r14.whr, .string r14.tok, .int .i64 r14.att, .int .i64 r14.since, .int .i64 r14.wrong, .bool r14.shown, .int .i64 r14.sat])), (some 21, .is (sv2)), (some 22, .is (.int .i64 (i : Int))), (some 23, .by fun u W => PtR (L) W u (encZ r14)), (some 24, .is (.agg #[.int .i64 r14.id, .string r14.sec, .string r14.med, .string r14.whr, .string r14.tok, .int .i64 r14.att, .int .i64 r14.since, .int .i64 r14.wrong, .bool r14.shown, .int .i64 r14.sat]))] [[], [], [0, 1], [2], [], [], [4, 5], [6]] (by kernel_rfl) (by kernel_rfl) (by kernel_rfl) (by kernel_rfl) (by kernel_rfl) (by kernel_rfl) (by kernel_rfl) ⟨fun _ _ _ hb h => h.below hb, fun _ _ _ hb h => h.below hb, trivial⟩ ?_ ?_
      ·
        refine DSteps.cons (fun Wd hd => ?_) ?_
        ·
          exact DV.dr (dx_move rfl rfl) ⟨Below.refl _ _, rfl⟩
        refine DSteps.cons (fun Wd hd => ?_) ?_
        ·
          exact DV.dr (dx_move rfl rfl) ⟨Below.refl _ _, rfl⟩
        refine DSteps.cons (fun Wd hd => ?_) ?_
        ·
          have h1 := h1.below hd
          exact (dx_idxF i rfl ty_slice_22 rfl rfl h1 (by omega) (at_mapX e15)).mono (fun v W' h => ⟨by rw [← h.1]; exact Below.refl _ _, by rw [← h.1]; exact h.2⟩)
        refine DSteps.cons (fun Wd hd => ?_) ?_
        ·
          intro u6_2 p6_2
          exact DV.dr (dx_loadPN rfl ty_agg_26_10 rfl p6_2 rfl) ⟨Below.refl _ _, rfl⟩
        refine DSteps.cons (fun Wd hd => ?_) ?_
        ·
          exact DV.dr (dx_move rfl rfl) ⟨Below.refl _ _, rfl⟩
        refine DSteps.cons (fun Wd hd => ?_) ?_
        ·
          exact DV.dr (dx_move rfl rfl) ⟨Below.refl _ _, rfl⟩
        refine DSteps.cons (fun Wd hd => ?_) ?_
        ·
          have h3 := h3.below hd
          exact (dx_idxF i rfl ty_slice_22 rfl rfl h3 (by omega) (at_mapX e15)).mono (fun v W' h => ⟨by rw [← h.1]; exact Below.refl _ _, by rw [← h.1]; exact h.2⟩)
        refine DSteps.cons (fun Wd hd => ?_) ?_
        ·
          intro u6_6 p6_6
          exact DV.dr (dx_loadPN rfl ty_agg_26_10 rfl p6_6 rfl) ⟨Below.refl _ _, rfl⟩
        exact trivial
      ·
        intro W16 b17
        intro u6_2 p6_2
        intro u6_6 p6_6
        replace h1 := h1.below b17
        replace h3 := h3.below b17
        replace hB := below_then hB b17
        replace hL := LL.below hL b17
        refine WL.val (dx_neZR (p := r14) rfl rfl rfl) rfl rfl ?_
        refine WL.nil ?_
        refine hK13 ?_
        refine WC.condF rfl ?_
        refine WC.skip ?_
        refine hK12 ?_
        refine WC.region ?_
        refine WL.val (dx_move rfl rfl) rfl rfl ?_
        refine WL.val (dx_add (r := (i : Int) + 1) rfl rfl rfl (wrap64_id (by omega))) rfl rfl ?_
        refine WL.val (dx_assign rfl rfl) rfl rfl ?_
        refine WL.nil ?_
        exact hK7 (i + 1) ⟨(by omega), hB, hL, h1, h3⟩ (by omega) (by repeat first | exact trivial | exact And.intro rfl trivial | refine And.intro rfl ?_ | refine And.intro (congrArg (fun z : Int => some (Value.int .i64 z)) (by omega)) ?_)
    ·
      replace c11 := of_decide_eq_false c11
      refine WC.exit ?_
      refine hK5 ?_
      refine WC.seq fun K18 hK18 => ?_
      refine WC.region ?_
      refine WL.val (dx_assign rfl rfl) rfl rfl ?_
      refine WL.nil ?_
      refine hK18 ?_
      refine WC.ret fun a_ ha_ => ?_
      exact hQ (cv_ret1 rfl (.tmp rfl) rfl hB ha_)

abbrev askZ : SesX := ⟨5, { data := #[115] }, { data := #[101, 109, 97, 105, 108] }, { data := #[97, 64, 98, 46, 99] }, { data := #[116] }, 1, 100, 0, false, 0⟩
theorem bld_ses (i : Int) (a b c d : ByteArray) (m n : Int) : Tryz.prog.built 26 [(0, .int .i64 i), (1, .string a), (2, .agg #[.string b, .string c]), (3, .string d), (4, .int .i64 m), (5, .int .i64 n)] = some [.int .i64 i, .string a, .string b, .string c, .string d, .int .i64 m, .int .i64 n, .int .i64 0, .bool false, .int .i64 0].toArray := by kernel_rfl
theorem al_g : goodZ askZ = true := by decide +kernel
theorem right_oneZ {s : SesX} (h : goodZ s = true) : rightZ [s] = true := (rightZ_iff _).2 ⟨by simp, by simpa using h, by simp, by simp⟩
theorem opn_nil (w : SesX) : opnZ [] w = [] := by unfold opnZ pruneZ; split <;> rfl
theorem sm_nil (w : SesX) : smAt [] w = -1 := by rw [smAt, opn_nil]; rfl
theorem al_r1 : reqE [] askZ = 0 := by
  unfold reqE
  rw [if_pos ⟨rightZ_nil, al_g, rfl, rfl⟩, sm_nil, opn_nil]
  rfl
theorem al_r2 : reqL [] askZ = [askZ] := by
  unfold reqL
  rw [if_pos al_r1, sm_nil, opn_nil, if_neg (by decide)]
  rfl
theorem al_r3 : reqI [] askZ = 5 := by unfold reqI; rw [if_pos al_r1, sm_nil, if_neg (by decide)]
theorem al_r4 : reqS [] askZ = true := by unfold reqS; rw [if_pos al_r1, sm_nil, if_neg (by decide)]
theorem sm_z0 : smallZ [] := fun b hb => by cases hb
/-- The one session, later on. -/
abbrev stZ (k : Int) (b : Bool) (t : Int) : SesX := ⟨5, { data := #[115] }, { data := #[101, 109, 97, 105, 108] }, { data := #[97, 64, 98, 46, 99] }, { data := #[116] }, 1, 100, k, b, t⟩
theorem st_good {k t : Int} {b : Bool} (hk : 0 ≤ k ∧ k ≤ 3) (ht : 0 ≤ t ∧ t ≤ 1099511627776) (hb : b = false → t = 0) : goodZ (stZ k b t) = true := by
  have h := al_g
  unfold goodZ at h ⊢
  simp only [Bool.and_eq_true, Bool.or_eq_true, decide_eq_true_eq] at h ⊢
  obtain ⟨h1, h2, h3, h4, h5, h6, h7, _⟩ := h
  refine ⟨h1, h2, h3, h4, h5, h6, h7, ht, hk.1, hk.2, ?_⟩
  cases b with
  | true => exact .inl rfl
  | false => exact .inr (hb rfl)
theorem sm_st (k : Int) (b : Bool) (t : Int) : smallZ [stZ k b t] := fun x hx => by rw [List.mem_singleton.1 hx]; show ({ data := #[97, 64, 98, 46, 99] } : ByteArray).size ≤ _; decide
theorem idx_one {α : Type} (p : α → Bool) (a : α) : idxX p [a] 0 = if p a = true then 0 else -1 := rfl
/-- What one try finds. -/
theorem st_fnd {k t now : Int} {b : Bool} {w : SesX} (hg : goodZ (stZ k b t) = true) (hn : 0 ≤ now ∧ now ≤ 1099511627776) (hid : w.id = 5) : (w.sec = { data := #[115] } ∧ now ≤ 86500 → fndE [stZ k b t] now w = 0 ∧ fndA [stZ k b t] now w = 0 ∧ fndZ [stZ k b t] now w = stZ k b t) ∧ (¬ (w.sec = { data := #[115] } ∧ now ≤ 86500) → fndE [stZ k b t] now w = 11) := by
  have hr := right_oneZ hg
  have hnn : numZ now 0 = true := by simpa using hn
  have hp : plP now w (stZ k b t) = (decide ({ data := #[115] } = w.sec) && !decide (86400 < now - 100)) := by
    unfold plP liveZ
    rw [hid]
    rfl
  constructor
  · rintro ⟨h1, h2⟩
    have hp1 : plAt [stZ k b t] now w = 0 := by
      rw [plAt, idx_one, hp, h1, decide_eq_true rfl, decide_eq_false (by omega)]
      rfl
    have h0 : fndE [stZ k b t] now w = 0 := by
      unfold fndE
      rw [if_pos ⟨hr, hnn⟩, hp1, if_neg (by decide)]
    refine ⟨h0, ?_, ?_⟩
    · unfold fndA; rw [if_pos h0, hp1]
    · unfold fndZ; rw [hp1]; rfl
  · intro h
    have hp1 : plAt [stZ k b t] now w = -1 := by
      rw [plAt, idx_one, hp]
      by_cases h1 : w.sec = { data := #[115] }
      · have h2 : 86400 < now - 100 := by
          have : ¬ now ≤ 86500 := fun h2 => h ⟨h1, h2⟩
          omega
        rw [decide_eq_true h2, Bool.not_true, Bool.and_false]
        rfl
      · rw [decide_eq_false (fun e => h1 e.symm), Bool.false_and]
        rfl
    unfold fndE
    rw [if_pos ⟨hr, hnn⟩, hp1, if_pos (by decide)]
theorem st_sub {k t now : Int} {b : Bool} {w : SesX} (hg : goodZ (stZ k b t) = true) (hn : 0 ≤ now ∧ now ≤ 1099511627776) (hid : w.id = 5) : (¬ (w.sec = { data := #[115] } ∧ now ≤ 86500) → subE [stZ k b t] now w = 11 ∧ subL [stZ k b t] now w = [stZ k b t]) ∧ (w.sec = { data := #[115] } → now ≤ 86500 → (k = 3 → subE [stZ k b t] now w = 16 ∧ subL [stZ k b t] now w = [stZ k b t]) ∧ (k ≠ 3 → (w.tok = { data := #[116] } → subE [stZ k b t] now w = 0 ∧ subL [stZ k b t] now w = [stZ k true (if b = true then t else now)]) ∧ (w.tok ≠ { data := #[116] } → subE [stZ k b t] now w = 12 ∧ subL [stZ k b t] now w = [stZ (k + 1) b t]))) := by
  obtain ⟨f1, f2⟩ := st_fnd (b := b) hg hn hid
  constructor
  · intro h
    have h0 := f2 h
    have he : subE [stZ k b t] now w = 11 := by unfold subE; rw [if_neg (by rw [h0]; decide), h0]
    exact ⟨he, by unfold subL; rw [if_neg (by rw [he]; decide)]⟩
  · intro hs hl
    obtain ⟨g1, g2, g3⟩ := f1 ⟨hs, hl⟩
    refine ⟨fun hk => ?_, fun hk => ⟨fun ht => ?_, fun ht => ?_⟩⟩
    · have he : subE [stZ k b t] now w = 16 := by unfold subE; rw [if_pos g1, g3, if_pos hk]
      exact ⟨he, by unfold subL; rw [if_neg (by rw [he]; decide)]⟩
    · have he : subE [stZ k b t] now w = 0 := by unfold subE; rw [if_pos g1, g3, if_neg hk, if_pos ht.symm]
      refine ⟨he, ?_⟩
      unfold subL
      rw [if_pos (.inl he), g2, g3]
      unfold hitS
      rw [if_pos ht.symm]
      cases b <;> rfl
    · have he : subE [stZ k b t] now w = 12 := by unfold subE; rw [if_pos g1, g3, if_neg hk, if_neg (fun e => ht e.symm)]
      refine ⟨he, ?_⟩
      unfold subL
      rw [if_pos (.inr he), g2, g3]
      unfold hitS
      rw [if_neg (fun e => ht e.symm)]
      rfl
theorem st_sh {k t now : Int} {b : Bool} (hg : goodZ (stZ k b t) = true) (hn : 0 ≤ now ∧ now ≤ 1099511627776) : (now ≤ 86500 → b = true → shE [stZ k b t] now askZ = 0 ∧ shM [stZ k b t] now askZ = { data := #[101, 109, 97, 105, 108] } ∧ shW [stZ k b t] now askZ = { data := #[97, 64, 98, 46, 99] }) ∧ (now ≤ 86500 → b = false → shE [stZ k b t] now askZ = 14) ∧ (86500 < now → shE [stZ k b t] now askZ = 11) := by
  obtain ⟨f1, f2⟩ := st_fnd (b := b) (w := askZ) hg hn rfl
  refine ⟨fun h hb => ?_, fun h hb => ?_, fun h => ?_⟩
  · obtain ⟨g1, g2, g3⟩ := f1 ⟨rfl, h⟩
    have he : shE [stZ k b t] now askZ = 0 := by unfold shE; rw [if_pos g1, g3, if_pos hb]
    refine ⟨he, ?_, ?_⟩
    · unfold shM; rw [if_pos he, g3]
    · unfold shW; rw [if_pos he, g3]
  · obtain ⟨g1, g2, g3⟩ := f1 ⟨rfl, h⟩
    unfold shE
    rw [if_pos g1, g3, if_neg (by show ¬ b = true; rw [hb]; decide)]
  · have h0 := f2 (fun hc => by omega)
    unfold shE
    rw [if_neg (by rw [h0]; decide), h0]
set_option maxHeartbeats 1000000 in
theorem ask_v  (w : World) (L : List Nat) (hL : LL L w)  : CV Tryz.prog 16 [] w fun v W => v = .agg #[.int .i64 5, .string ({ data := #[115] }), .string ({ data := #[101, 109, 97, 105, 108] }), .string ({ data := #[97, 64, 98, 46, 99] }), .string ({ data := #[116] }), .int .i64 1, .int .i64 100, .int .i64 0, .bool false, .int .i64 0] := by
  refine cv_enter (N := 3) (f := []) Tryz.func16 rfl rfl rfl rfl fun Q hQ hE => ?_
  have hB := Below.refl w.heap.size w
  refine WC.seq fun K1 hK1 => ?_
  refine WC.region ?_
  refine WL.get (dx_alloc rfl ty_zero_26 rfl) rfl rfl ?_
  rintro _ W2 ⟨rfl, k3, b4, z5⟩
  have l6 := hB.size
  replace hB := below_then hB b4
  replace hL := LL.more hL z5
  refine WL.nil ?_
  refine hK1 ?_
  refine WC.seq fun K7 hK7 => ?_
  refine WC.region ?_
  refine WL.val (dx_build rfl rfl (built_of_O (cs := [.string ({ data := #[101, 109, 97, 105, 108] }), .string ({ data := #[97, 64, 98, 46, 99] })]) (by kernel_rfl) (oc_cons rfl (oc_cons rfl oc_nil)))) rfl rfl ?_
  refine WL.val (dx_build rfl rfl (bld_ses _ _ _ _ _ _ _)) rfl rfl ?_
  refine WL.do (dx_store (cs' := [.int .i64 5, .string ({ data := #[115] }), .string ({ data := #[101, 109, 97, 105, 108] }), .string ({ data := #[97, 64, 98, 46, 99] }), .string ({ data := #[116] }), .int .i64 1, .int .i64 100, .int .i64 0, .bool false, .int .i64 0]) (vs := [.int .i64 5, .string ({ data := #[115] }), .string ({ data := #[101, 109, 97, 105, 108] }), .string ({ data := #[97, 64, 98, 46, 99] }), .string ({ data := #[116] }), .int .i64 1, .int .i64 100, .int .i64 0, .bool false, .int .i64 0]) rfl ty_size_26_10 rfl rfl rfl (oc_cons rfl (oc_cons rfl (oc_cons rfl (oc_cons rfl (oc_cons rfl (oc_cons rfl (oc_cons rfl (oc_cons rfl (oc_cons rfl (oc_cons rfl oc_nil)))))))))) k3 rfl (Nat.le_of_ble_eq_true rfl) rfl) rfl ?_
  rintro _ W8 ⟨k10, o9⟩
  clear k3
  replace hB := o9.below hB l6
  replace hL := LL.only hL o9
  refine WL.nil ?_
  refine hK7 ?_
  refine WC.ret fun a_ ha_ => ?_
  exact hQ (cv_ret1 rfl (.agg rfl ty_agg_26_10 k10.range rfl) rfl hB ha_)

set_option maxHeartbeats 1000000 in
theorem great16_v (xs : List SesX) (sv : Value) (w : World) (L : List Nat) (hL : LL L w) (h1 : RdF 10 L w sv (xs.map encZ)) : CV Tryz.prog 5 [sv] w fun v W => v = .bool (decide (40 < (xs.length : Int))) := by
  refine cv_enter (N := 6) (f := [(0, sv)]) Tryz.func5 rfl rfl rfl rfl fun Q hQ hE => ?_
  have hB := Below.refl w.heap.size w
  have h1m : xs.length ≤ maxLen := by have := h1.len; rwa [List.length_map] at this
  unfold maxLen at h1m
  refine WC.seq fun K1 hK1 => ?_
  refine WC.region ?_
  refine WL.val (dx_assign rfl rfl) rfl rfl ?_
  refine WL.nil ?_
  refine hK1 ?_
  refine WC.seq fun K2 hK2 => ?_
  refine WC.region ?_
  refine WL.val (dx_move rfl rfl) rfl rfl ?_
  refine WL.val (dx_lenX rfl ty_slice_22 rfl h1) rfl rfl ?_
  refine WL.val (dx_gtr rfl rfl rfl) rfl rfl ?_
  refine WL.val (dx_assign rfl rfl) rfl rfl ?_
  refine WL.nil ?_
  refine hK2 ?_
  refine WC.ret fun a_ ha_ => ?_
  exact hQ (cv_ret1 rfl (.tmp rfl) rfl hB ha_)

set_option maxHeartbeats 1000000 in
theorem alive16_v  (w : World) (L : List Nat) (hL : LL L w) (hM : MaxL L w) : CV Tryz.prog 4 [] w fun v W => v = .bool true := by
  refine cv_enter (N := 63) (f := []) Tryz.func4 rfl rfl rfl rfl fun Q hQ hE => ?_
  have hB := Below.refl w.heap.size w
  refine WC.seq fun K1 hK1 => ?_
  refine WC.region ?_
  refine WL.val (dx_assign rfl rfl) rfl rfl ?_
  refine WL.nil ?_
  refine hK1 ?_
  refine WC.seq fun K2 hK2 => ?_
  refine WC.region ?_
  refine WL.get (dx_cv rfl Tryz.func16 rfl rfl rfl (ask_v w [] (LL.nil _))) rfl rfl ?_
  rintro _ W4 ⟨rfl, b3⟩
  replace hM := hM.below b3
  replace hB := below_then hB b3
  replace hL := LL.below hL b3
  refine WL.get (dx_cv rfl Tryz.func15 rfl rfl rfl ((show CV _ _ [_, _] _ (fun v W => ∃ s2, v = .tuple #[s2, .int .i64 5, .bool true, .int .i64 0] ∧ RdF 10 (L) W s2 ([askZ].map encZ)) from by have := request_v [] askZ (.slice none 0 0) W4 (L) hL (RdF.nil (by decide)) hM sm_z0 (by decide); rw [al_r1, al_r2, al_r3, al_r4] at this; exact this))) rfl rfl ?_
  rintro _ W8 ⟨⟨u5, rfl, j6⟩, b7⟩
  replace hM := hM.below b7
  replace hB := below_then hB b7
  replace hL := LL.below hL b7
  refine WL.val (dx_move rfl rfl) rfl rfl ?_
  refine WL.val (dx_extract rfl rfl rfl) rfl rfl ?_
  refine WL.val (dx_extract rfl rfl rfl) rfl rfl ?_
  refine WL.val (dx_extract rfl rfl rfl) rfl rfl ?_
  refine WL.val (dx_extract rfl rfl rfl) rfl rfl ?_
  refine WL.val (dx_assign rfl rfl) rfl rfl ?_
  refine WL.val (dx_assign rfl rfl) rfl rfl ?_
  refine WL.val (dx_assign rfl rfl) rfl rfl ?_
  refine WL.val (dx_assign rfl rfl) rfl rfl ?_
  refine WL.nil ?_
  refine hK2 ?_
  refine WC.seq fun K9 hK9 => ?_
  refine WC.region ?_
  refine WL.val (dx_move rfl rfl) rfl rfl ?_
  refine WL.get (dx_cv rfl Tryz.func16 rfl rfl rfl (ask_v W8 [] (LL.nil _))) rfl rfl ?_
  rintro _ W11 ⟨rfl, b10⟩
  replace hM := hM.below b10
  replace j6 := j6.below b10
  replace hB := below_then hB b10
  replace hL := LL.below hL b10
  refine WL.get (dx_cv rfl Tryz.func6 rfl rfl rfl ((show CV _ _ [_, _, _] _ (fun v W => ∃ s2, v = .tuple #[s2, .int .i64 0] ∧ RdF 10 (L) W s2 ([stZ 0 true 200].map encZ)) from by have := submit_v [stZ 0 false 0] 200 askZ _ W11 (L) hL j6 hM (sm_st _ _ _); obtain ⟨q1, q2⟩ := ((st_sub (k := 0) (t := 0) (now := 200) (b := false) (w := askZ) al_g (by decide) rfl).2 rfl (by decide)).2 (by decide) |>.1 rfl; rw [q1, q2] at this; exact this))) rfl rfl ?_
  rintro _ W15 ⟨⟨u12, rfl, j13⟩, b14⟩
  replace hM := hM.below b14
  replace j6 := j6.below b14
  replace hB := below_then hB b14
  replace hL := LL.below hL b14
  refine WL.val (dx_move rfl rfl) rfl rfl ?_
  refine WL.val (dx_extract rfl rfl rfl) rfl rfl ?_
  refine WL.val (dx_extract rfl rfl rfl) rfl rfl ?_
  refine WL.val (dx_assign rfl rfl) rfl rfl ?_
  refine WL.val (dx_assign rfl rfl) rfl rfl ?_
  refine WL.nil ?_
  refine hK9 ?_
  refine WC.seq fun K16 hK16 => ?_
  refine WC.region ?_
  refine WL.val (dx_move rfl rfl) rfl rfl ?_
  refine WL.get (dx_cv rfl Tryz.func16 rfl rfl rfl (ask_v W15 [] (LL.nil _))) rfl rfl ?_
  rintro _ W18 ⟨rfl, b17⟩
  replace hM := hM.below b17
  replace j6 := j6.below b17
  replace j13 := j13.below b17
  replace hB := below_then hB b17
  replace hL := LL.below hL b17
  refine WL.get (dx_cv rfl Tryz.func8 rfl rfl rfl ((show CV _ _ [_, _, _] _ (fun v W => v = .tuple #[.agg #[.string { data := #[101, 109, 97, 105, 108] }, .string { data := #[97, 64, 98, 46, 99] }], .int .i64 0]) from by have := shown_v [stZ 0 true 200] 300 askZ _ W18 (L) hL j13 hM (sm_st _ _ _); obtain ⟨q1, q2, q3⟩ := (st_sh (k := 0) (t := 200) (now := 300) (b := true) (st_good (by decide) (by decide) (by decide)) (by decide)).1 (by decide) rfl; rw [q1, q2, q3] at this; exact this))) rfl rfl ?_
  rintro _ W20 ⟨rfl, b19⟩
  replace hM := hM.below b19
  replace j6 := j6.below b19
  replace j13 := j13.below b19
  replace hB := below_then hB b19
  replace hL := LL.below hL b19
  refine WL.val (dx_move rfl rfl) rfl rfl ?_
  refine WL.val (dx_extract rfl rfl rfl) rfl rfl ?_
  refine WL.val (dx_extract rfl rfl rfl) rfl rfl ?_
  refine WL.get (dx_alloc rfl ty_zero_24 rfl) rfl rfl ?_
  rintro _ W21 ⟨rfl, k22, b23, z24⟩
  have l25 := hB.size
  replace hM := hM.more b23 (Nat.le_refl _)
  replace j6 := j6.more b23 (Nat.le_refl _)
  replace j13 := j13.more b23 (Nat.le_refl _)
  replace hB := below_then hB b23
  replace hL := LL.more hL z24
  refine WL.do (dx_store (cs' := [.string ({ data := #[101, 109, 97, 105, 108] }), .string ({ data := #[97, 64, 98, 46, 99] })]) (vs := [.string ({ data := #[101, 109, 97, 105, 108] }), .string ({ data := #[97, 64, 98, 46, 99] })]) rfl ty_size_24_2 rfl rfl rfl (oc_cons rfl (oc_cons rfl oc_nil)) k22 rfl (Nat.le_of_ble_eq_true rfl) rfl) rfl ?_
  rintro _ W26 ⟨k28, o27⟩
  clear k22
  replace hM := hM.only o27 (.head _)
  replace j6 := j6.only o27 (.head _)
  replace j13 := j13.only o27 (.head _)
  replace hB := o27.below hB l25
  replace hL := LL.only hL o27
  refine WL.val (dx_assign rfl rfl) rfl rfl ?_
  refine WL.nil ?_
  refine hK16 ?_
  refine WC.seq fun K29 hK29 => ?_
  refine WC.region ?_
  refine WL.val (dx_move rfl rfl) rfl rfl ?_
  refine WL.get (dx_cv rfl Tryz.func16 rfl rfl rfl (ask_v W26 [] (LL.nil _))) rfl rfl ?_
  rintro _ W31 ⟨rfl, b30⟩
  replace hM := hM.below b30
  replace j6 := j6.below b30
  replace j13 := j13.below b30
  replace k28 := k28.below b30
  replace hB := below_then hB b30
  replace hL := LL.below hL b30
  refine WL.get (dx_cv rfl Tryz.func8 rfl rfl rfl ((show CV _ _ [_, _, _] _ (fun v W => v = .tuple #[.agg #[.string ⟨#[]⟩, .string ⟨#[]⟩], .int .i64 14]) from by have := shown_v [stZ 0 false 0] 300 askZ _ W31 (W20.heap.size :: L) hL j6 hM (sm_st _ _ _); have q1 := (st_sh (k := 0) (t := 0) (now := 300) (b := false) al_g (by decide)).2.1 (by decide) rfl; have q2 : shM [stZ 0 false 0] 300 askZ = ⟨#[]⟩ := (by unfold shM; rw [if_neg (by rw [q1]; decide)]); have q3 : shW [stZ 0 false 0] 300 askZ = ⟨#[]⟩ := (by unfold shW; rw [if_neg (by rw [q1]; decide)]); rw [q1, q2, q3] at this; exact this))) rfl rfl ?_
  rintro _ W35 ⟨rfl, b34⟩
  replace hM := hM.below b34
  replace j6 := j6.below b34
  replace j13 := j13.below b34
  replace k28 := k28.below b34
  replace hB := below_then hB b34
  replace hL := LL.below hL b34
  refine WL.val (dx_move rfl rfl) rfl rfl ?_
  refine WL.val (dx_extract rfl rfl rfl) rfl rfl ?_
  refine WL.val (dx_extract rfl rfl rfl) rfl rfl ?_
  refine WL.get (dx_alloc rfl ty_zero_24 rfl) rfl rfl ?_
  rintro _ W36 ⟨rfl, k37, b38, z39⟩
  have n40 : W20.heap.size ≠ W35.heap.size := Nat.ne_of_lt k28.lt
  have l41 := hB.size
  replace hM := hM.more b38 (Nat.le_refl _)
  replace j6 := j6.more b38 (Nat.le_refl _)
  replace j13 := j13.more b38 (Nat.le_refl _)
  replace k28 := k28.below b38
  replace hB := below_then hB b38
  replace hL := LL.more hL z39
  refine WL.do (dx_store (cs' := [.string ⟨#[]⟩, .string ⟨#[]⟩]) (vs := [.string ⟨#[]⟩, .string ⟨#[]⟩]) rfl ty_size_24_2 rfl rfl rfl (oc_cons rfl (oc_cons rfl oc_nil)) k37 rfl (Nat.le_of_ble_eq_true rfl) rfl) rfl ?_
  rintro _ W42 ⟨k44, o43⟩
  replace k28 := k28.other o43 n40
  clear k37
  replace hM := hM.only o43 (.head _)
  replace j6 := j6.only o43 (.head _)
  replace j13 := j13.only o43 (.head _)
  replace hB := o43.below hB l41
  replace hL := LL.only hL o43
  refine WL.val (dx_assign rfl rfl) rfl rfl ?_
  refine WL.nil ?_
  refine hK29 ?_
  refine WC.seq fun K45 hK45 => ?_
  refine WC.drawM 27 [(some 36, .is (.int .i64 0)), (some 37, .is (.bool true)), (some 38, .is (.bool true)), (some 39, .is (.int .i64 0)), (some 40, .is (.bool true)), (some 41, .is (.bool true)), (some 42, .is (.bool true)), (some 43, .is (.int .i64 0)), (some 44, .is (.bool true)), (some 45, .is (.bool true)), (some 46, .is (.bool true)), (some 47, .is (.int .i64 14)), (some 48, .is (.bool true)), (some 49, .is (.bool true)), (some 50, .is (.bool true)), (some 51, .is (.int .i64 5)), (some 52, .is (.bool true)), (some 53, .is (.bool true)), (some 54, .is (.bool true)), (some 55, .is (.bool true)), (some 56, .is (.bool true)), (some 57, .is (.bool true)), (some 58, .is (.agg #[.string ({ data := #[101, 109, 97, 105, 108] }), .string ({ data := #[97, 64, 98, 46, 99] })])), (some 59, .is (.agg #[.int .i64 5, .string ({ data := #[115] }), .string ({ data := #[101, 109, 97, 105, 108] }), .string ({ data := #[97, 64, 98, 46, 99] }), .string ({ data := #[116] }), .int .i64 1, .int .i64 100, .int .i64 0, .bool false, .int .i64 0])), (some 60, .is (.agg #[.string ({ data := #[101, 109, 97, 105, 108] }), .string ({ data := #[97, 64, 98, 46, 99] })])), (some 61, .is (.bool true)), (some 62, .is (.bool true))] [[], [0], [1], [2], [3, 2], [2, 4], [5, 2], [6], [7, 6], [6, 8], [9, 6], [10], [11, 10], [10, 12], [13, 10], [14], [15, 14], [14, 16], [17, 14], [18], [18, 19], [20, 18], [21], [21, 21], [23, 21], [22, 24, 21], [21, 25]] (by kernel_rfl) (by kernel_rfl) (by kernel_rfl) (by kernel_rfl) (by kernel_rfl) (by kernel_rfl) (by kernel_rfl) (by exact trivial) ?_ ?_
  ·
    refine DSteps.cons (fun Wd hd => ?_) ?_
    ·
      exact DV.dr (dx_move rfl rfl) ⟨Below.refl _ _, rfl⟩
    refine DSteps.cons (fun Wd hd => ?_) ?_
    ·
      exact DV.dr (dx_eql rfl rfl rfl) ⟨Below.refl _ _, rfl⟩
    refine DSteps.cons (fun Wd hd => ?_) ?_
    ·
      exact DV.dr (dx_move rfl rfl) ⟨Below.refl _ _, rfl⟩
    refine DSteps.cons (fun Wd hd => ?_) ?_
    ·
      exact DV.dr (dx_move rfl rfl) ⟨Below.refl _ _, rfl⟩
    refine DSteps.cons (fun Wd hd => ?_) ?_
    ·
      exact DV.dr (dx_eql rfl rfl rfl) ⟨Below.refl _ _, rfl⟩
    refine DSteps.cons (fun Wd hd => ?_) ?_
    ·
      exact DV.dr (dx_pick rfl rfl rfl) ⟨Below.refl _ _, rfl⟩
    refine DSteps.cons (fun Wd hd => ?_) ?_
    ·
      exact DV.dr (dx_move rfl rfl) ⟨Below.refl _ _, rfl⟩
    refine DSteps.cons (fun Wd hd => ?_) ?_
    ·
      exact DV.dr (dx_move rfl rfl) ⟨Below.refl _ _, rfl⟩
    refine DSteps.cons (fun Wd hd => ?_) ?_
    ·
      exact DV.dr (dx_eql rfl rfl rfl) ⟨Below.refl _ _, rfl⟩
    refine DSteps.cons (fun Wd hd => ?_) ?_
    ·
      exact DV.dr (dx_pick rfl rfl rfl) ⟨Below.refl _ _, rfl⟩
    refine DSteps.cons (fun Wd hd => ?_) ?_
    ·
      exact DV.dr (dx_move rfl rfl) ⟨Below.refl _ _, rfl⟩
    refine DSteps.cons (fun Wd hd => ?_) ?_
    ·
      exact DV.dr (dx_move rfl rfl) ⟨Below.refl _ _, rfl⟩
    refine DSteps.cons (fun Wd hd => ?_) ?_
    ·
      exact DV.dr (dx_eql rfl rfl rfl) ⟨Below.refl _ _, rfl⟩
    refine DSteps.cons (fun Wd hd => ?_) ?_
    ·
      exact DV.dr (dx_pick rfl rfl rfl) ⟨Below.refl _ _, rfl⟩
    refine DSteps.cons (fun Wd hd => ?_) ?_
    ·
      exact DV.dr (dx_move rfl rfl) ⟨Below.refl _ _, rfl⟩
    refine DSteps.cons (fun Wd hd => ?_) ?_
    ·
      exact DV.dr (dx_move rfl rfl) ⟨Below.refl _ _, rfl⟩
    refine DSteps.cons (fun Wd hd => ?_) ?_
    ·
      exact DV.dr (dx_eql rfl rfl rfl) ⟨Below.refl _ _, rfl⟩
    refine DSteps.cons (fun Wd hd => ?_) ?_
    ·
      exact DV.dr (dx_pick rfl rfl rfl) ⟨Below.refl _ _, rfl⟩
    refine DSteps.cons (fun Wd hd => ?_) ?_
    ·
      exact DV.dr (dx_move rfl rfl) ⟨Below.refl _ _, rfl⟩
    refine DSteps.cons (fun Wd hd => ?_) ?_
    ·
      exact DV.dr (dx_move rfl rfl) ⟨Below.refl _ _, rfl⟩
    refine DSteps.cons (fun Wd hd => ?_) ?_
    ·
      exact DV.dr (dx_pick rfl rfl rfl) ⟨Below.refl _ _, rfl⟩
    refine DSteps.cons (fun Wd hd => ?_) ?_
    ·
      exact DV.dr (dx_move rfl rfl) ⟨Below.refl _ _, rfl⟩
    refine DSteps.cons (fun Wd hd => ?_) ?_
    ·
      have k28 := k28.below hd
      exact DV.dr (dx_loadN rfl ty_agg_24_2 rfl k28.range rfl) ⟨Below.refl _ _, rfl⟩
    refine DSteps.cons (fun Wd hd => ?_) ?_
    ·
      exact DR.mono (dx_cv rfl Tryz.func16 rfl rfl rfl (ask_v Wd [] (LL.nil _))) (fun v W' ⟨h, hb⟩ => ⟨hb, (by rw [h]; exact rfl)⟩)
    refine DSteps.cons (fun Wd hd => ?_) ?_
    ·
      exact DV.dr (dx_fieldAdZ (p := askZ) rfl rfl) ⟨Below.refl _ _, rfl⟩
    refine DSteps.cons (fun Wd hd => ?_) ?_
    ·
      exact DV.dr (dv_T (dx_eqAd rfl rfl rfl) (by decide)) ⟨Below.refl _ _, rfl⟩
    refine DSteps.cons (fun Wd hd => ?_) ?_
    ·
      exact DV.dr (dx_pick rfl rfl rfl) ⟨Below.refl _ _, rfl⟩
    exact trivial
  ·
    intro W46 b47
    replace hM := hM.below b47
    replace j6 := j6.below b47
    replace j13 := j13.below b47
    replace k28 := k28.below b47
    replace k44 := k44.below b47
    replace hB := below_then hB b47
    replace hL := LL.below hL b47
    refine WL.val (dx_assign rfl rfl) rfl rfl ?_
    refine WL.nil ?_
    refine hK45 ?_
    refine WC.ret fun a_ ha_ => ?_
    exact hQ (cv_ret1 rfl (.tmp rfl) rfl hB ha_)

end Go.Proofs.YthllidchoodofaaGreatDoor
namespace Go.Proofs.YthllidchoodofaaGreatDoor
open Go.RowKit
set_option linter.unusedVariables false

set_option maxHeartbeats 400000 in
theorem ref_digit_any (c : Int) (w : World) : Calls Tryz.prog 82 #[.int .u8 c] w fun e w' => e = .returned (.bool (digI c)) ∧ w = w' := by
  go_enter Tryz.func82, Tryz.ntmps82
  go_wp2
  all_goals go_ret
  all_goals exact ⟨by simp [digI, *]; try omega, rfl⟩
set_option maxHeartbeats 400000 in
theorem ref_small_any (c : Int) (w : World) : Calls Tryz.prog 80 #[.int .u8 c] w fun e w' => e = .returned (.bool (smlI c)) ∧ w = w' := by
  go_enter Tryz.func80, Tryz.ntmps80
  go_wp2
  all_goals go_ret
  all_goals exact ⟨by simp [smlI, *]; try omega, rfl⟩
set_option maxHeartbeats 400000 in
theorem ref_great_any (c : Int) (w : World) : Calls Tryz.prog 81 #[.int .u8 c] w fun e w' => e = .returned (.bool (grtI c)) ∧ w = w' := by
  go_enter Tryz.func81, Tryz.ntmps81
  go_wp2
  all_goals go_ret
  all_goals exact ⟨by simp [grtI, *]; try omega, rfl⟩
/-- The place of the first colon, or -1. -/
def colV (l : List Int) : Int := if colI l < l.length then (colI l : Int) else -1
theorem findIdx_at {p : Int → Bool} {l : List Int} {k : Nat} (hk : k < l.length) (h : (l.take k).all (fun x => !p x) = true) (hp : p (at0 l k) = true) : l.findIdx p = k := by
  rw [List.findIdx_eq hk]
  refine ⟨by rw [← at0_lt hk]; exact hp, fun j hj => ?_⟩
  have hm : l[j] ∈ l.take k := List.mem_take_iff_getElem.2 ⟨j, by omega, rfl⟩
  have := List.all_eq_true.1 h _ hm
  simpa using this
end Go.Proofs.YthllidchoodofaaGreatDoor

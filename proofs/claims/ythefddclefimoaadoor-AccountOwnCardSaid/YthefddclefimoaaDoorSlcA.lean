/- slices.Delete on rows of cells. -/
import Derived.Test.YthefddclefimoaaDoorTy
import Derived.Test.YthefddclefimoaaDoorVw
namespace Go.Proofs.YthefddclefimoaaDoor
open Go.RowKit
set_option linter.unusedVariables false
set_option linter.unusedSimpArgs false
set_option maxRecDepth 8000

theorem cl_Bond : clB Tryd.prog 38 4 = true := by kernel_rfl
set_option maxHeartbeats 1000000 in
theorem deleteBond_v (rs sp : List (List Value)) (i j : Nat) (B : Nat) (w : World) (L : List Nat) (hL : LL (B :: L) w) (hO : RwB 4 w B (rs ++ sp)) (hij : i ≤ j) (hj : j ≤ rs.length) (hone : ∀ r ∈ rs, ∀ u ∈ r, u.oneCell' = true) : CW Tryd.prog 40 [.slice (some ⟨B, 0, none⟩) rs.length ((rs ++ sp).length), .int .i64 (i : Int), .int .i64 (j : Int)] w B fun v W => ∃ B', OwS 4 W v (rs.take i ++ rs.drop j) B' ∧ (B' = B ∨ w.heap.size ≤ B') := by
  refine cw_enter (N := 33) (f := [(0, .slice (some ⟨B, 0, none⟩) rs.length ((rs ++ sp).length)), (1, .int .i64 (i : Int)), (2, .int .i64 (j : Int))]) Tryd.func40 rfl rfl rfl rfl fun Q hQ hE => ?_
  have hB := Chg.refl B w
  have hlen : (rs ++ sp).length = rs.length + sp.length := List.length_append
  refine WC.seq fun K1 hK1 => ?_
  refine WC.region ?_
  refine WL.val (dx_assign rfl rfl) rfl rfl ?_
  refine WL.nil ?_
  refine hK1 ?_
  refine WC.seq fun K2 hK2 => ?_
  refine WC.region ?_
  refine WL.val (dx_move rfl rfl) rfl rfl ?_
  refine WL.val (dx_move rfl rfl) rfl rfl ?_
  refine WL.val (dx_move rfl rfl) rfl rfl ?_
  refine WL.val (dx_move rfl rfl) rfl rfl ?_
  refine WL.val (dx_len rfl Tryd.underlying38 rfl) rfl rfl ?_
  refine WL.val (dx_slLHM i j rs.length rfl ty_slice_38 rfl rfl rfl rfl rfl rfl rfl (by omega) (by omega) (by omega)) rfl rfl ?_
  refine WL.nil ?_
  refine hK2 ?_
  refine WC.seq fun K3 hK3 => ?_
  refine WC.seq fun K4 hK4 => ?_
  refine WC.region ?_
  refine WL.val (dx_move rfl rfl) rfl rfl ?_
  refine WL.val (dx_move rfl rfl) rfl rfl ?_
  refine WL.val (dx_eql rfl rfl rfl) rfl rfl ?_
  refine WL.nil ?_
  refine hK4 ?_
  refine WC.cond rfl (fun c5 => ?_) (fun c5 => ?_)
  ·
    replace c5 := of_decide_eq_true c5
    refine WC.seq fun K6 hK6 => ?_
    refine WC.region ?_
    refine WL.val (dx_move rfl rfl) rfl rfl ?_
    refine WL.val (dx_assign rfl rfl) rfl rfl ?_
    refine WL.nil ?_
    refine hK6 ?_
    refine WC.ret fun a_ ha_ => ?_
    exact hQ (cw_ret1 rfl (.tmp rfl) ⟨B, (by have hij2 : i = j := (by omega); subst hij2; rw [List.take_append_drop]; exact hO.own), .inl rfl⟩ hB ha_)
  ·
    replace c5 := of_decide_eq_false c5
    refine WC.skip ?_
    refine hK3 ?_
    refine WC.seq fun K7 hK7 => ?_
    refine WC.region ?_
    refine WL.val (dx_move rfl rfl) rfl rfl ?_
    refine WL.val (dx_len rfl Tryd.underlying38 rfl) rfl rfl ?_
    refine WL.val (dx_assign rfl rfl) rfl rfl ?_
    refine WL.nil ?_
    refine hK7 ?_
    refine WC.seq fun K8 hK8 => ?_
    refine WC.drawM 6 [(some 20, .is (.slice (some ⟨B, 0, none⟩) rs.length ((rs ++ sp).length))), (some 21, .is (.int .i64 (i : Int))), (some 22, .is (.slice (some ⟨B, 0, none⟩) i ((rs ++ sp).length))), (some 23, .is (.slice (some ⟨B, 0, none⟩) rs.length ((rs ++ sp).length))), (some 24, .is (.int .i64 (j : Int))), (some 25, .is (.slice (some ⟨B, (offV ((rs ++ sp).length) j 0 4), none⟩) (rs.length - j) ((rs ++ sp).length - j)))] [[], [], [0, 1], [], [], [3, 4]] (by kernel_rfl) (by kernel_rfl) (by kernel_rfl) (by kernel_rfl) (by kernel_rfl) (by kernel_rfl) (by kernel_rfl) (by exact trivial) ?_ ?_
    ·
      refine DSteps.cons (fun Wd hd => ?_) ?_
      ·
        exact DV.dr (dx_move rfl rfl) ⟨Below.refl _ _, rfl⟩
      refine DSteps.cons (fun Wd hd => ?_) ?_
      ·
        exact DV.dr (dx_move rfl rfl) ⟨Below.refl _ _, rfl⟩
      refine DSteps.cons (fun Wd hd => ?_) ?_
      ·
        exact DV.dr (dx_slH i rfl ty_slice_38 rfl rfl rfl (by omega)) ⟨Below.refl _ _, rfl⟩
      refine DSteps.cons (fun Wd hd => ?_) ?_
      ·
        exact DV.dr (dx_move rfl rfl) ⟨Below.refl _ _, rfl⟩
      refine DSteps.cons (fun Wd hd => ?_) ?_
      ·
        exact DV.dr (dx_move rfl rfl) ⟨Below.refl _ _, rfl⟩
      refine DSteps.cons (fun Wd hd => ?_) ?_
      ·
        exact DV.dr (dx_slL j rfl ty_slice_38 rfl rfl rfl (by omega) (by omega)) ⟨Below.refl _ _, rfl⟩
      exact trivial
    ·
      intro W9 b10
      replace hO := hO.below b10
      replace hB := hB.thenB b10
      replace hL := LL.below hL b10
      refine WL.get (dx_apV (R := (rs ++ sp)) (news := ((rs ++ sp).drop j).take (rs.length - j)) rfl ty_ap_38 rfl rfl hO (hO.part (L := []) (lo := j) (by simp) (fun hn => by rw [offV_in hn (by rw [hlen]; omega)]; simp) (by rw [hlen]; omega) (by rw [hlen]; omega)) (fun r hr => hone r (mem_tail hj hr)) (m := rs.length - j) (by rw [List.length_take, List.length_drop, List.length_append]; omega) (by simp; omega)) rfl rfl ?_
      rintro _ W11 ⟨rfl, k12, o13⟩
      replace hB := hB.only o13 (.inl rfl)
      replace hL := LL.only hL o13
      have hR1 : (((rs ++ sp).take i) ++ (((rs ++ sp).drop j).take (rs.length - j) ++ (rs ++ sp).drop (i + (rs.length - j)))).length = (rs ++ sp).length := (by simp; omega)
      refine WL.val (dx_assign rfl rfl) rfl rfl ?_
      refine WL.nil ?_
      refine hK8 ?_
      refine WC.seq fun K14 hK14 => ?_
      refine WC.region ?_
      refine WL.val (dx_move rfl rfl) rfl rfl ?_
      refine WL.val (dx_move rfl rfl) rfl rfl ?_
      refine WL.val (dx_len rfl Tryd.underlying38 rfl) rfl rfl ?_
      refine WL.val (dx_move rfl rfl) rfl rfl ?_
      refine WL.val (dx_slLH (i + (rs.length - j)) rs.length rfl ty_slice_38 rfl rfl rfl rfl rfl (by omega) (by omega)) rfl rfl ?_
      refine WL.do (dx_clV (R := (((rs ++ sp).take i) ++ (((rs ++ sp).drop j).take (rs.length - j) ++ (rs ++ sp).drop (i + (rs.length - j))))) (lo := i + (rs.length - j)) (n := j - i) rfl cl_Bond (by rw [show j - i = rs.length - (i + (rs.length - j)) by omega]; rfl) (fun hn => by rw [offV_in (n := j - i) hn (by simp; omega)]; simp) k12 (by rw [hR1]; simp; omega)) rfl ?_
      rintro _ W15 ⟨zs, hz, k16, o17⟩
      have hd := del_rows (rs := rs) (sp := sp) (zs := zs) hij hj hz
      simp only at hd
      rw [hd] at k16
      replace hB := hB.only o17 (.inl rfl)
      replace hL := LL.only hL o17
      refine WL.nil ?_
      refine hK14 ?_
      refine WC.seq fun K18 hK18 => ?_
      refine WC.region ?_
      refine WL.val (dx_move rfl rfl) rfl rfl ?_
      refine WL.val (dx_assign rfl rfl) rfl rfl ?_
      refine WL.nil ?_
      refine hK18 ?_
      refine WC.ret fun a_ ha_ => ?_
      exact hQ (cw_ret1 rfl (.tmp rfl) ⟨B, (by have := k16.own; have e1 : (rs.take i ++ rs.drop j).length = i + (rs.length - j) := (by simp; omega); have e2 : ((rs.take i ++ rs.drop j) ++ (zs ++ sp)).length = (rs ++ sp).length := (by simp; omega); rw [e1, e2] at this; exact this), .inl rfl⟩ hB ha_)

theorem cl_User : clB Tryd.prog 22 3 = true := by kernel_rfl
set_option maxHeartbeats 1000000 in
theorem deleteUser_v (rs sp : List (List Value)) (i j : Nat) (B : Nat) (w : World) (L : List Nat) (hL : LL (B :: L) w) (hO : RwB 3 w B (rs ++ sp)) (hij : i ≤ j) (hj : j ≤ rs.length) (hone : ∀ r ∈ rs, ∀ u ∈ r, u.oneCell' = true) : CW Tryd.prog 27 [.slice (some ⟨B, 0, none⟩) rs.length ((rs ++ sp).length), .int .i64 (i : Int), .int .i64 (j : Int)] w B fun v W => ∃ B', OwS 3 W v (rs.take i ++ rs.drop j) B' ∧ (B' = B ∨ w.heap.size ≤ B') := by
  refine cw_enter (N := 33) (f := [(0, .slice (some ⟨B, 0, none⟩) rs.length ((rs ++ sp).length)), (1, .int .i64 (i : Int)), (2, .int .i64 (j : Int))]) Tryd.func27 rfl rfl rfl rfl fun Q hQ hE => ?_
  have hB := Chg.refl B w
  have hlen : (rs ++ sp).length = rs.length + sp.length := List.length_append
  refine WC.seq fun K1 hK1 => ?_
  refine WC.region ?_
  refine WL.val (dx_assign rfl rfl) rfl rfl ?_
  refine WL.nil ?_
  refine hK1 ?_
  refine WC.seq fun K2 hK2 => ?_
  refine WC.region ?_
  refine WL.val (dx_move rfl rfl) rfl rfl ?_
  refine WL.val (dx_move rfl rfl) rfl rfl ?_
  refine WL.val (dx_move rfl rfl) rfl rfl ?_
  refine WL.val (dx_move rfl rfl) rfl rfl ?_
  refine WL.val (dx_len rfl Tryd.underlying22 rfl) rfl rfl ?_
  refine WL.val (dx_slLHM i j rs.length rfl ty_slice_22 rfl rfl rfl rfl rfl rfl rfl (by omega) (by omega) (by omega)) rfl rfl ?_
  refine WL.nil ?_
  refine hK2 ?_
  refine WC.seq fun K3 hK3 => ?_
  refine WC.seq fun K4 hK4 => ?_
  refine WC.region ?_
  refine WL.val (dx_move rfl rfl) rfl rfl ?_
  refine WL.val (dx_move rfl rfl) rfl rfl ?_
  refine WL.val (dx_eql rfl rfl rfl) rfl rfl ?_
  refine WL.nil ?_
  refine hK4 ?_
  refine WC.cond rfl (fun c5 => ?_) (fun c5 => ?_)
  ·
    replace c5 := of_decide_eq_true c5
    refine WC.seq fun K6 hK6 => ?_
    refine WC.region ?_
    refine WL.val (dx_move rfl rfl) rfl rfl ?_
    refine WL.val (dx_assign rfl rfl) rfl rfl ?_
    refine WL.nil ?_
    refine hK6 ?_
    refine WC.ret fun a_ ha_ => ?_
    exact hQ (cw_ret1 rfl (.tmp rfl) ⟨B, (by have hij2 : i = j := (by omega); subst hij2; rw [List.take_append_drop]; exact hO.own), .inl rfl⟩ hB ha_)
  ·
    replace c5 := of_decide_eq_false c5
    refine WC.skip ?_
    refine hK3 ?_
    refine WC.seq fun K7 hK7 => ?_
    refine WC.region ?_
    refine WL.val (dx_move rfl rfl) rfl rfl ?_
    refine WL.val (dx_len rfl Tryd.underlying22 rfl) rfl rfl ?_
    refine WL.val (dx_assign rfl rfl) rfl rfl ?_
    refine WL.nil ?_
    refine hK7 ?_
    refine WC.seq fun K8 hK8 => ?_
    refine WC.drawM 6 [(some 20, .is (.slice (some ⟨B, 0, none⟩) rs.length ((rs ++ sp).length))), (some 21, .is (.int .i64 (i : Int))), (some 22, .is (.slice (some ⟨B, 0, none⟩) i ((rs ++ sp).length))), (some 23, .is (.slice (some ⟨B, 0, none⟩) rs.length ((rs ++ sp).length))), (some 24, .is (.int .i64 (j : Int))), (some 25, .is (.slice (some ⟨B, (offV ((rs ++ sp).length) j 0 3), none⟩) (rs.length - j) ((rs ++ sp).length - j)))] [[], [], [0, 1], [], [], [3, 4]] (by kernel_rfl) (by kernel_rfl) (by kernel_rfl) (by kernel_rfl) (by kernel_rfl) (by kernel_rfl) (by kernel_rfl) (by exact trivial) ?_ ?_
    ·
      refine DSteps.cons (fun Wd hd => ?_) ?_
      ·
        exact DV.dr (dx_move rfl rfl) ⟨Below.refl _ _, rfl⟩
      refine DSteps.cons (fun Wd hd => ?_) ?_
      ·
        exact DV.dr (dx_move rfl rfl) ⟨Below.refl _ _, rfl⟩
      refine DSteps.cons (fun Wd hd => ?_) ?_
      ·
        exact DV.dr (dx_slH i rfl ty_slice_22 rfl rfl rfl (by omega)) ⟨Below.refl _ _, rfl⟩
      refine DSteps.cons (fun Wd hd => ?_) ?_
      ·
        exact DV.dr (dx_move rfl rfl) ⟨Below.refl _ _, rfl⟩
      refine DSteps.cons (fun Wd hd => ?_) ?_
      ·
        exact DV.dr (dx_move rfl rfl) ⟨Below.refl _ _, rfl⟩
      refine DSteps.cons (fun Wd hd => ?_) ?_
      ·
        exact DV.dr (dx_slL j rfl ty_slice_22 rfl rfl rfl (by omega) (by omega)) ⟨Below.refl _ _, rfl⟩
      exact trivial
    ·
      intro W9 b10
      replace hO := hO.below b10
      replace hB := hB.thenB b10
      replace hL := LL.below hL b10
      refine WL.get (dx_apV (R := (rs ++ sp)) (news := ((rs ++ sp).drop j).take (rs.length - j)) rfl ty_ap_22 rfl rfl hO (hO.part (L := []) (lo := j) (by simp) (fun hn => by rw [offV_in hn (by rw [hlen]; omega)]; simp) (by rw [hlen]; omega) (by rw [hlen]; omega)) (fun r hr => hone r (mem_tail hj hr)) (m := rs.length - j) (by rw [List.length_take, List.length_drop, List.length_append]; omega) (by simp; omega)) rfl rfl ?_
      rintro _ W11 ⟨rfl, k12, o13⟩
      replace hB := hB.only o13 (.inl rfl)
      replace hL := LL.only hL o13
      have hR1 : (((rs ++ sp).take i) ++ (((rs ++ sp).drop j).take (rs.length - j) ++ (rs ++ sp).drop (i + (rs.length - j)))).length = (rs ++ sp).length := (by simp; omega)
      refine WL.val (dx_assign rfl rfl) rfl rfl ?_
      refine WL.nil ?_
      refine hK8 ?_
      refine WC.seq fun K14 hK14 => ?_
      refine WC.region ?_
      refine WL.val (dx_move rfl rfl) rfl rfl ?_
      refine WL.val (dx_move rfl rfl) rfl rfl ?_
      refine WL.val (dx_len rfl Tryd.underlying22 rfl) rfl rfl ?_
      refine WL.val (dx_move rfl rfl) rfl rfl ?_
      refine WL.val (dx_slLH (i + (rs.length - j)) rs.length rfl ty_slice_22 rfl rfl rfl rfl rfl (by omega) (by omega)) rfl rfl ?_
      refine WL.do (dx_clV (R := (((rs ++ sp).take i) ++ (((rs ++ sp).drop j).take (rs.length - j) ++ (rs ++ sp).drop (i + (rs.length - j))))) (lo := i + (rs.length - j)) (n := j - i) rfl cl_User (by rw [show j - i = rs.length - (i + (rs.length - j)) by omega]; rfl) (fun hn => by rw [offV_in (n := j - i) hn (by simp; omega)]; simp) k12 (by rw [hR1]; simp; omega)) rfl ?_
      rintro _ W15 ⟨zs, hz, k16, o17⟩
      have hd := del_rows (rs := rs) (sp := sp) (zs := zs) hij hj hz
      simp only at hd
      rw [hd] at k16
      replace hB := hB.only o17 (.inl rfl)
      replace hL := LL.only hL o17
      refine WL.nil ?_
      refine hK14 ?_
      refine WC.seq fun K18 hK18 => ?_
      refine WC.region ?_
      refine WL.val (dx_move rfl rfl) rfl rfl ?_
      refine WL.val (dx_assign rfl rfl) rfl rfl ?_
      refine WL.nil ?_
      refine hK18 ?_
      refine WC.ret fun a_ ha_ => ?_
      exact hQ (cw_ret1 rfl (.tmp rfl) ⟨B, (by have := k16.own; have e1 : (rs.take i ++ rs.drop j).length = i + (rs.length - j) := (by simp; omega); have e2 : ((rs.take i ++ rs.drop j) ++ (zs ++ sp)).length = (rs ++ sp).length := (by simp; omega); rw [e1, e2] at this; exact this), .inl rfl⟩ hB ha_)

end Go.Proofs.YthefddclefimoaaDoor

/- slices.Insert on rows of cells: some rows, of a block of their own, into a slice of one's own. -/
import Derived.Test.YthefddclefimoaaDoorTy
import Derived.Test.YthefddclefimoaaDoorIns
namespace Go.Proofs.YthefddclefimoaaDoor
open Go.RowKit
set_option linter.unusedVariables false
set_option linter.unusedSimpArgs false
set_option maxRecDepth 8000

theorem del_tail {α : Type} {rs sp : List α} {i : Nat} (hi : i ≤ rs.length) : ((rs ++ sp).drop i).take (rs.length - i) = rs.drop i := by
  rw [List.drop_append_of_le_length hi, List.take_append_of_le_length (by rw [List.length_drop]; omega), List.take_of_length_le (by rw [List.length_drop]; omega)]
theorem ins_own_eq {s : Nat} {w : World} {rs vs tl : List (List Value)} {B i n c : Nat} (h : OwS s w (.slice (some ⟨B, 0, none⟩) (rs.take i ++ (vs ++ rs.drop i)).length ((rs.take i ++ (vs ++ rs.drop i)) ++ tl).length) (rs.take i ++ (vs ++ rs.drop i)) B) (hi : i ≤ rs.length) (hn : rs.length + vs.length = n) (hc : ((rs.take i ++ (vs ++ rs.drop i)) ++ tl).length = c) : OwS s w (.slice (some ⟨B, 0, none⟩) n c) (rs.take i ++ (vs ++ rs.drop i)) B := by
  have e : (rs.take i ++ (vs ++ rs.drop i)).length = n := by simp; omega
  rw [e, hc] at h
  exact h
theorem GrowB.new_or {B B' : Nat} {w w' : World} (h : GrowB B B' w w') : B' = B ∨ w.heap.size ≤ B' := h.new
set_option maxHeartbeats 1000000 in
theorem insertBond_v (rs sp vs vp : List (List Value)) (i : Nat) (B C : Nat) (w : World) (L : List Nat) (hL : LL (B :: L) w) (hO : RwB 4 w B (rs ++ sp)) (hV : RwB 4 w C (vs ++ vp)) (hCB : C ≠ B) (hi : i ≤ rs.length) (hvs : vs ≠ []) (hsm : (rs.length + vs.length) * 56 ≤ 140737488355328) (hone : ∀ r ∈ rs, ∀ u ∈ r, u.oneCell' = true) (hvone : ∀ r ∈ vs, ∀ u ∈ r, u.oneCell' = true) : CW Tryd.prog 43 [.slice (some ⟨B, 0, none⟩) rs.length ((rs ++ sp).length), .int .i64 (i : Int), .slice (some ⟨C, 0, none⟩) vs.length ((vs ++ vp).length)] w B fun v W => ∃ B', OwS 4 W v (rs.take i ++ (vs ++ rs.drop i)) B' ∧ (B' = B ∨ w.heap.size ≤ B') := by
  refine cw_enter (N := 95) (f := [(0, .slice (some ⟨B, 0, none⟩) rs.length ((rs ++ sp).length)), (1, .int .i64 (i : Int)), (2, .slice (some ⟨C, 0, none⟩) vs.length ((vs ++ vp).length))]) Tryd.func43 rfl rfl rfl rfl fun Q hQ hE => ?_
  have hB := Chg.refl B w
  have hlen : (rs ++ sp).length = rs.length + sp.length := List.length_append
  have hm0 := List.length_pos_iff.2 hvs
  refine WC.seq fun K1 hK1 => ?_
  refine WC.region ?_
  refine WL.val (dx_assign rfl rfl) rfl rfl ?_
  refine WL.nil ?_
  refine hK1 ?_
  refine WC.seq fun K2 hK2 => ?_
  refine WC.region ?_
  refine WL.val (dx_move rfl rfl) rfl rfl ?_
  refine WL.val (dx_move rfl rfl) rfl rfl ?_
  refine WL.val (dx_slL i rfl ty_slice_38 rfl rfl rfl (by omega) (by omega)) rfl rfl ?_
  refine WL.nil ?_
  refine hK2 ?_
  refine WC.seq fun K3 hK3 => ?_
  refine WC.region ?_
  refine WL.val (dx_move rfl rfl) rfl rfl ?_
  refine WL.val (dx_len rfl Tryd.underlying38 rfl) rfl rfl ?_
  refine WL.val (dx_assign rfl rfl) rfl rfl ?_
  refine WL.nil ?_
  refine hK3 ?_
  refine WC.seq fun K4 hK4 => ?_
  refine WC.seq fun K5 hK5 => ?_
  refine WC.region ?_
  refine WL.val (dx_move rfl rfl) rfl rfl ?_
  refine WL.val (dx_eql rfl rfl rfl) rfl rfl ?_
  refine WL.nil ?_
  refine hK5 ?_
  refine WC.cond rfl (fun c6 => ?_) (fun c6 => ?_)
  ·
    replace c6 := of_decide_eq_true c6
    exfalso; omega
  ·
    replace c6 := of_decide_eq_false c6
    refine WC.skip ?_
    refine hK4 ?_
    refine WC.seq fun K7 hK7 => ?_
    refine WC.region ?_
    refine WL.val (dx_move rfl rfl) rfl rfl ?_
    refine WL.val (dx_len rfl Tryd.underlying38 rfl) rfl rfl ?_
    refine WL.val (dx_assign rfl rfl) rfl rfl ?_
    refine WL.nil ?_
    refine hK7 ?_
    refine WC.seq fun K8 hK8 => ?_
    refine WC.seq fun K9 hK9 => ?_
    refine WC.region ?_
    refine WL.val (dx_move rfl rfl) rfl rfl ?_
    refine WL.val (dx_move rfl rfl) rfl rfl ?_
    refine WL.val (dx_eql rfl rfl rfl) rfl rfl ?_
    refine WL.nil ?_
    refine hK9 ?_
    refine WC.cond rfl (fun c10 => ?_) (fun c10 => ?_)
    ·
      replace c10 := of_decide_eq_true c10
      refine WC.seq fun K11 hK11 => ?_
      refine WC.region ?_
      refine WL.val (dx_move rfl rfl) rfl rfl ?_
      refine WL.val (dx_move rfl rfl) rfl rfl ?_
      refine WL.get (dx_apO' (rs := rs) (news := vs) rfl ty_ap_38 rfl rfl hO.own (hV.rd (L := []) (by simp)) hvone (by unfold maxLen; omega) (by omega)) rfl rfl ?_
      rintro u16 W12 ⟨B13, k14, g15⟩
      replace hB := hB.grow g15 (.inl rfl)
      refine WL.val (dx_assign rfl rfl) rfl rfl ?_
      refine WL.nil ?_
      refine hK11 ?_
      refine WC.ret fun a_ ha_ => ?_
      exact hQ (cw_ret1 rfl (.tmp rfl) ⟨B13, (by have e : i = rs.length := (by omega); rw [e, List.take_length, List.drop_length, List.append_nil]; exact k14), g15.new_or⟩ hB ha_)
    ·
      replace c10 := of_decide_eq_false c10
      refine WC.skip ?_
      refine hK8 ?_
      refine WC.seq fun K17 hK17 => ?_
      refine WC.seq fun K18 hK18 => ?_
      refine WC.region ?_
      refine WL.val (dx_move rfl rfl) rfl rfl ?_
      refine WL.val (dx_move rfl rfl) rfl rfl ?_
      refine WL.val (dx_add (r := ((rs.length + vs.length : Nat) : Int)) rfl rfl rfl (by rw [wrap64_id (by omega)]; omega)) rfl rfl ?_
      refine WL.val (dx_move rfl rfl) rfl rfl ?_
      refine WL.val (dx_cap rfl Tryd.underlying38 rfl) rfl rfl ?_
      refine WL.val (dx_gtr rfl rfl rfl) rfl rfl ?_
      refine WL.nil ?_
      refine hK18 ?_
      refine WC.cond rfl (fun c19 => ?_) (fun c19 => ?_)
      ·
        replace c19 := of_decide_eq_true c19
        refine WC.seq fun K20 hK20 => ?_
        refine WC.region ?_
        refine WL.val (dx_move rfl rfl) rfl rfl ?_
        refine WL.val (dx_move rfl rfl) rfl rfl ?_
        refine WL.val (dx_slH i rfl ty_slice_38 rfl rfl rfl (by omega)) rfl rfl ?_
        refine WL.val (dx_move rfl rfl) rfl rfl ?_
        refine WL.val (dx_move rfl rfl) rfl rfl ?_
        refine WL.val (dx_add (r := ((rs.length + vs.length : Nat) : Int)) rfl rfl rfl (by rw [wrap64_id (by omega)]; omega)) rfl rfl ?_
        refine WL.val (dx_move rfl rfl) rfl rfl ?_
        refine WL.val (dx_sub (r := ((rs.length + vs.length - i : Nat) : Int)) rfl rfl rfl (by rw [wrap64_id (by omega)]; omega)) rfl rfl ?_
        refine WL.get (dx_apZ (rs.length + vs.length - i) (R := (rs ++ sp)) rfl ty_ap_38 Tryd.underlying3 rfl rfl rfl hO (by omega) (by omega) (by unfold maxLen; omega) (by omega)) rfl rfl ?_
        rintro _ W1 ⟨Z, rfl, hz1, hz2, kZ, bZ, zZ⟩
        have nB : B ≠ w.heap.size := Nat.ne_of_lt hO.lt
        have nC : C ≠ w.heap.size := Nat.ne_of_lt hV.lt
        replace hO := hO.below bZ
        replace hV := hV.below bZ
        replace hB := hB.thenB bZ
        replace hL := LL.more hL zZ
        have hz3 : Z.take i = rs.take i := (by rw [hz2]; exact List.take_append_of_le_length hi)
        have ez : i + (rs.length + vs.length - i) = rs.length + vs.length := (by omega)
        rw [ez] at hz1
        refine WL.val (dx_assign rfl rfl) rfl rfl ?_
        refine WL.nil ?_
        refine hK20 ?_
        refine WC.seq fun K21 hK21 => ?_
        refine WC.region ?_
        refine WL.val (dx_move rfl rfl) rfl rfl ?_
        refine WL.val (dx_move rfl rfl) rfl rfl ?_
        refine WL.val (dx_slL i rfl ty_slice_38 rfl rfl rfl (by omega) (by omega)) rfl rfl ?_
        refine WL.val (dx_move rfl rfl) rfl rfl ?_
        refine WL.get (dx_cpV (B := w.heap.size) (R := Z) (news := vs) (lo := i) (n := (i + (rs.length + vs.length - i) - i)) rfl ty_slice_38 rfl (fun hn => by rw [offV_in (n := (i + (rs.length + vs.length - i) - i)) hn (by omega)]; simp) rfl kZ (hV.rd (L := []) (by simp)) (fun r hr => hvone r (List.mem_of_mem_take hr)) (by omega)) rfl rfl ?_
        rintro _ W22 ⟨rfl, k23, o24⟩
        replace hB := hB.only o24 (.inr (Nat.le_refl _))
        replace hL := LL.only hL o24
        replace hO := hO.other o24 nB
        replace hV := hV.other o24 nC
        rw [List.take_of_length_le (l := vs) (by omega), show min vs.length (i + (rs.length + vs.length - i) - i) = vs.length by omega] at k23
        have l3 : (Z.take i ++ (vs ++ Z.drop (i + vs.length))).length = Z.length := (by simp; omega)
        have hg := ins_grow (vs := vs) hi hz1 hz3
        simp only at hg
        refine WL.nil ?_
        refine hK21 ?_
        refine WC.seq fun K25 hK25 => ?_
        refine WC.drawM 8 [(some 46, .is (.slice (some ⟨w.heap.size, 0, none⟩) (i + (rs.length + vs.length - i)) Z.length)), (some 47, .is (.int .i64 (i : Int))), (some 48, .is (.int .i64 (vs.length : Int))), (some 49, .is (.int .i64 ((i + vs.length : Nat) : Int))), (some 50, .is (.slice (some ⟨w.heap.size, (offV Z.length (i + vs.length) 0 4), none⟩) ((i + (rs.length + vs.length - i)) - (i + vs.length)) (Z.length - (i + vs.length)))), (some 51, .is (.slice (some ⟨B, 0, none⟩) rs.length ((rs ++ sp).length))), (some 52, .is (.int .i64 (i : Int))), (some 53, .is (.slice (some ⟨B, (offV ((rs ++ sp).length) i 0 4), none⟩) (rs.length - i) ((rs ++ sp).length - i)))] [[], [], [], [1, 2], [0, 3], [], [], [5, 6]] (by kernel_rfl) (by kernel_rfl) (by kernel_rfl) (by kernel_rfl) (by kernel_rfl) (by kernel_rfl) (by kernel_rfl) (by exact trivial) ?_ ?_
        ·
          refine DSteps.cons (fun Wd hd => ?_) ?_
          ·
            exact DV.dr (dx_move rfl rfl) ⟨Below.refl _ _, rfl⟩
          refine DSteps.cons (fun Wd hd => ?_) ?_
          ·
            exact DV.dr (dx_move rfl rfl) ⟨Below.refl _ _, rfl⟩
          refine DSteps.cons (fun Wd hd => ?_) ?_
          ·
            exact DV.dr (dx_move rfl rfl) ⟨Below.refl _ _, rfl⟩
          refine DSteps.cons (fun Wd hd => ?_) ?_
          ·
            exact DV.dr (dx_add (r := ((i + vs.length : Nat) : Int)) rfl rfl rfl (by rw [wrap64_id (by omega)]; omega)) ⟨Below.refl _ _, rfl⟩
          refine DSteps.cons (fun Wd hd => ?_) ?_
          ·
            exact DV.dr (dx_slL (i + vs.length) rfl ty_slice_38 rfl rfl rfl (by omega) (by omega)) ⟨Below.refl _ _, rfl⟩
          refine DSteps.cons (fun Wd hd => ?_) ?_
          ·
            exact DV.dr (dx_move rfl rfl) ⟨Below.refl _ _, rfl⟩
          refine DSteps.cons (fun Wd hd => ?_) ?_
          ·
            exact DV.dr (dx_move rfl rfl) ⟨Below.refl _ _, rfl⟩
          refine DSteps.cons (fun Wd hd => ?_) ?_
          ·
            exact DV.dr (dx_slL i rfl ty_slice_38 rfl rfl rfl (by omega) (by omega)) ⟨Below.refl _ _, rfl⟩
          exact trivial
        ·
          intro W26 b27
          replace hO := hO.below b27
          replace hV := hV.below b27
          replace k23 := k23.below b27
          replace hB := hB.thenB b27
          replace hL := LL.below hL b27
          refine WL.get (dx_cpV (B := w.heap.size) (R := (Z.take i ++ (vs ++ Z.drop (i + vs.length)))) (news := (((rs ++ sp).drop i).take (rs.length - i))) (lo := (i + vs.length)) (n := (i + (rs.length + vs.length - i) - (i + vs.length))) rfl ty_slice_38 rfl (fun hn => by rw [offV_in (n := (i + (rs.length + vs.length - i) - (i + vs.length))) hn (by omega)]; simp) rfl k23 (hO.part (L := []) (lo := i) (n := rs.length - i) (by simp) (fun hn => by rw [offV_in (n := rs.length - i) hn (by rw [hlen]; omega)]; simp) (by rw [hlen]; omega) (by rw [hlen]; omega)) (fun r hr => hone r (mem_tail hi (List.mem_of_mem_take hr))) (by omega)) rfl rfl ?_
          rintro _ W28 ⟨rfl, k29, o30⟩
          replace hB := hB.only o30 (.inr (Nat.le_refl _))
          replace hL := LL.only hL o30
          replace hO := hO.other o30 nB
          replace hV := hV.other o30 nC
          rw [show ((rs ++ sp).drop i).take (rs.length - i) = rs.drop i from del_tail hi] at k29
          rw [List.take_of_length_le (l := rs.drop i) (by rw [List.length_drop]; omega), List.length_drop, show min (rs.length - i) (i + (rs.length + vs.length - i) - (i + vs.length)) = rs.length - i by omega, hg] at k29
          have hown := k29.own
          refine WL.nil ?_
          refine hK25 ?_
          refine WC.seq fun K31 hK31 => ?_
          refine WC.region ?_
          refine WL.val (dx_move rfl rfl) rfl rfl ?_
          refine WL.val (dx_assign rfl rfl) rfl rfl ?_
          refine WL.nil ?_
          refine hK31 ?_
          refine WC.ret fun a_ ha_ => ?_
          exact hQ (cw_ret1 rfl (.tmp rfl) ⟨w.heap.size, ins_own_eq hown hi ez.symm (by simp; omega), .inr (Nat.le_refl _)⟩ hB ha_)
      ·
        replace c19 := of_decide_eq_false c19
        refine WC.skip ?_
        refine hK17 ?_
        refine WC.seq fun K32 hK32 => ?_
        refine WC.region ?_
        refine WL.val (dx_move rfl rfl) rfl rfl ?_
        refine WL.val (dx_move rfl rfl) rfl rfl ?_
        refine WL.val (dx_move rfl rfl) rfl rfl ?_
        refine WL.val (dx_add (r := ((rs.length + vs.length : Nat) : Int)) rfl rfl rfl (by rw [wrap64_id (by omega)]; omega)) rfl rfl ?_
        refine WL.val (dx_slH (rs.length + vs.length) rfl ty_slice_38 rfl rfl rfl (by omega)) rfl rfl ?_
        refine WL.val (dx_assign rfl rfl) rfl rfl ?_
        refine WL.nil ?_
        refine hK32 ?_
        refine WC.seq fun K33 hK33 => ?_
        refine WC.seq fun K34 hK34 => ?_
        refine WC.region ?_
        refine WL.val (dx_move rfl rfl) rfl rfl ?_
        refine WL.val (dx_move rfl rfl) rfl rfl ?_
        refine WL.val (dx_move rfl rfl) rfl rfl ?_
        refine WL.val (dx_move rfl rfl) rfl rfl ?_
        refine WL.val (dx_add (r := ((i + vs.length : Nat) : Int)) rfl rfl rfl (by rw [wrap64_id (by omega)]; omega)) rfl rfl ?_
        refine WL.val (dx_slL (i + vs.length) rfl ty_slice_38 rfl rfl rfl (by omega) (by omega)) rfl rfl ?_
        refine WL.val (dx_ovl (U := (rs ++ sp)) (V := (vs ++ vp)) (s := 4) (tR := 4) rfl Tryd.func60 (by kernel_rfl) (by kernel_rfl) (by kernel_rfl) (by kernel_rfl) ty_slice_38 rfl rfl hV hO hCB (by intro e; rw [e] at hlen; simp only [List.length_nil] at hlen; omega)) rfl rfl ?_
        refine WL.val (dx_not rfl rfl) rfl rfl ?_
        refine WL.nil ?_
        refine hK34 ?_
        refine WC.condT rfl ?_
        refine WC.seq fun K35 hK35 => ?_
        refine WC.drawM 8 [(some 69, .is (.slice (some ⟨B, 0, none⟩) (rs.length + vs.length) ((rs ++ sp).length))), (some 70, .is (.int .i64 (i : Int))), (some 71, .is (.int .i64 (vs.length : Int))), (some 72, .is (.int .i64 ((i + vs.length : Nat) : Int))), (some 73, .is (.slice (some ⟨B, (offV ((rs ++ sp).length) (i + vs.length) 0 4), none⟩) ((rs.length + vs.length) - (i + vs.length)) ((rs ++ sp).length - (i + vs.length)))), (some 74, .is (.slice (some ⟨B, 0, none⟩) (rs.length + vs.length) ((rs ++ sp).length))), (some 75, .is (.int .i64 (i : Int))), (some 76, .is (.slice (some ⟨B, (offV ((rs ++ sp).length) i 0 4), none⟩) ((rs.length + vs.length) - i) ((rs ++ sp).length - i)))] [[], [], [], [1, 2], [0, 3], [], [], [5, 6]] (by kernel_rfl) (by kernel_rfl) (by kernel_rfl) (by kernel_rfl) (by kernel_rfl) (by kernel_rfl) (by kernel_rfl) (by exact trivial) ?_ ?_
        ·
          refine DSteps.cons (fun Wd hd => ?_) ?_
          ·
            exact DV.dr (dx_move rfl rfl) ⟨Below.refl _ _, rfl⟩
          refine DSteps.cons (fun Wd hd => ?_) ?_
          ·
            exact DV.dr (dx_move rfl rfl) ⟨Below.refl _ _, rfl⟩
          refine DSteps.cons (fun Wd hd => ?_) ?_
          ·
            exact DV.dr (dx_move rfl rfl) ⟨Below.refl _ _, rfl⟩
          refine DSteps.cons (fun Wd hd => ?_) ?_
          ·
            exact DV.dr (dx_add (r := ((i + vs.length : Nat) : Int)) rfl rfl rfl (by rw [wrap64_id (by omega)]; omega)) ⟨Below.refl _ _, rfl⟩
          refine DSteps.cons (fun Wd hd => ?_) ?_
          ·
            exact DV.dr (dx_slL (i + vs.length) rfl ty_slice_38 rfl rfl rfl (by omega) (by omega)) ⟨Below.refl _ _, rfl⟩
          refine DSteps.cons (fun Wd hd => ?_) ?_
          ·
            exact DV.dr (dx_move rfl rfl) ⟨Below.refl _ _, rfl⟩
          refine DSteps.cons (fun Wd hd => ?_) ?_
          ·
            exact DV.dr (dx_move rfl rfl) ⟨Below.refl _ _, rfl⟩
          refine DSteps.cons (fun Wd hd => ?_) ?_
          ·
            exact DV.dr (dx_slL i rfl ty_slice_38 rfl rfl rfl (by omega) (by omega)) ⟨Below.refl _ _, rfl⟩
          exact trivial
        ·
          intro W36 b37
          replace hO := hO.below b37
          replace hV := hV.below b37
          replace hB := hB.thenB b37
          replace hL := LL.below hL b37
          refine WL.get (dx_cpV (B := B) (R := (rs ++ sp)) (news := (((rs ++ sp).drop i).take (rs.length + vs.length - i))) (lo := (i + vs.length)) (n := (rs.length + vs.length - (i + vs.length))) rfl ty_slice_38 rfl (fun hn => by rw [offV_in (n := (rs.length + vs.length - (i + vs.length))) hn (by omega)]; simp) rfl hO (hO.part (L := []) (lo := i) (n := rs.length + vs.length - i) (by simp) (fun hn => by rw [offV_in (n := rs.length + vs.length - i) hn (by omega)]; simp) (by omega) (by omega)) (fun r hr => hone r (mem_tail2 hi (by omega) (by omega) hr)) (by omega)) rfl rfl ?_
          rintro _ W38 ⟨rfl, k39, o40⟩
          replace hB := hB.only o40 (.inl rfl)
          replace hL := LL.only hL o40
          replace hV := hV.other o40 hCB
          have ll : (((rs ++ sp).drop i).take (rs.length + vs.length - i)).length = rs.length + vs.length - i := (by rw [List.length_take, List.length_drop]; omega)
          rw [ll, show min (rs.length + vs.length - i) (rs.length + vs.length - (i + vs.length)) = rs.length - i by omega, show rs.length + vs.length - (i + vs.length) = rs.length - i by omega] at k39
          have l3 : ((rs ++ sp).take (i + vs.length) ++ ((((rs ++ sp).drop i).take (rs.length + vs.length - i)).take (rs.length - i) ++ (rs ++ sp).drop (i + vs.length + (rs.length - i)))).length = (rs ++ sp).length := (by simp; omega)
          have hg := ins_room (vs := vs) (sp := sp) hi (by omega)
          simp only at hg
          refine WL.nil ?_
          refine hK35 ?_
          refine WC.seq fun K41 hK41 => ?_
          refine WC.region ?_
          refine WL.val (dx_move rfl rfl) rfl rfl ?_
          refine WL.val (dx_move rfl rfl) rfl rfl ?_
          refine WL.val (dx_slL i rfl ty_slice_38 rfl rfl rfl (by omega) (by omega)) rfl rfl ?_
          refine WL.val (dx_move rfl rfl) rfl rfl ?_
          refine WL.get (dx_cpV (B := B) (R := ((rs ++ sp).take (i + vs.length) ++ ((((rs ++ sp).drop i).take (rs.length + vs.length - i)).take (rs.length - i) ++ (rs ++ sp).drop (i + vs.length + (rs.length - i))))) (news := vs) (lo := i) (n := (rs.length + vs.length - i)) rfl ty_slice_38 rfl (fun hn => by rw [offV_in (n := (rs.length + vs.length - i)) hn (by omega)]; simp) rfl k39 (hV.rd (L := []) (by simp)) (fun r hr => hvone r (List.mem_of_mem_take hr)) (by omega)) rfl rfl ?_
          rintro _ W42 ⟨rfl, k43, o44⟩
          replace hB := hB.only o44 (.inl rfl)
          replace hL := LL.only hL o44
          replace hV := hV.other o44 hCB
          rw [List.take_of_length_le (l := vs) (by omega), show min vs.length (rs.length + vs.length - i) = vs.length by omega, hg] at k43
          have hown := k43.own
          refine WL.nil ?_
          refine hK41 ?_
          refine WC.seq fun K45 hK45 => ?_
          refine WC.region ?_
          refine WL.val (dx_move rfl rfl) rfl rfl ?_
          refine WL.val (dx_assign rfl rfl) rfl rfl ?_
          refine WL.nil ?_
          refine hK45 ?_
          refine WC.ret fun a_ ha_ => ?_
          exact hQ (cw_ret1 rfl (.tmp rfl) ⟨B, ins_own_eq hown hi rfl (by simp; omega), .inl rfl⟩ hB ha_)

set_option maxHeartbeats 1000000 in
theorem insertNBond_v (vs vp : List (List Value)) (C : Nat) (w : World) (L : List Nat) (hL : LL L w)   (hV : RwB 4 w C (vs ++ vp)) (hvs : vs ≠ []) (hsm : vs.length * 56 ≤ 140737488355328) : CV Tryd.prog 43 [.slice none 0 0, .int .i64 0, .slice (some ⟨C, 0, none⟩) vs.length ((vs ++ vp).length)] w fun v W => ∃ B, w.heap.size ≤ B ∧ OwS 4 W v vs B := by
  refine cv_enter (N := 95) (f := [(0, .slice none 0 0), (1, .int .i64 0), (2, .slice (some ⟨C, 0, none⟩) vs.length ((vs ++ vp).length))]) Tryd.func43 rfl rfl rfl rfl fun Q hQ hE => ?_
  have hB := Below.refl w.heap.size w
  have hm0 := List.length_pos_iff.2 hvs
  refine WC.seq fun K1 hK1 => ?_
  refine WC.region ?_
  refine WL.val (dx_assign rfl rfl) rfl rfl ?_
  refine WL.nil ?_
  refine hK1 ?_
  refine WC.seq fun K2 hK2 => ?_
  refine WC.region ?_
  refine WL.val (dx_move rfl rfl) rfl rfl ?_
  refine WL.val (dx_move rfl rfl) rfl rfl ?_
  refine WL.val (dx_slN rfl ty_slice_38 rfl rfl) rfl rfl ?_
  refine WL.nil ?_
  refine hK2 ?_
  refine WC.seq fun K3 hK3 => ?_
  refine WC.region ?_
  refine WL.val (dx_move rfl rfl) rfl rfl ?_
  refine WL.val (dx_len rfl Tryd.underlying38 rfl) rfl rfl ?_
  refine WL.val (dx_assign rfl rfl) rfl rfl ?_
  refine WL.nil ?_
  refine hK3 ?_
  refine WC.seq fun K4 hK4 => ?_
  refine WC.seq fun K5 hK5 => ?_
  refine WC.region ?_
  refine WL.val (dx_move rfl rfl) rfl rfl ?_
  refine WL.val (dx_eql rfl rfl rfl) rfl rfl ?_
  refine WL.nil ?_
  refine hK5 ?_
  refine WC.cond rfl (fun c6 => ?_) (fun c6 => ?_)
  ·
    replace c6 := of_decide_eq_true c6
    exfalso; omega
  ·
    replace c6 := of_decide_eq_false c6
    refine WC.skip ?_
    refine hK4 ?_
    refine WC.seq fun K7 hK7 => ?_
    refine WC.region ?_
    refine WL.val (dx_move rfl rfl) rfl rfl ?_
    refine WL.val (dx_len rfl Tryd.underlying38 rfl) rfl rfl ?_
    refine WL.val (dx_assign rfl rfl) rfl rfl ?_
    refine WL.nil ?_
    refine hK7 ?_
    refine WC.seq fun K8 hK8 => ?_
    refine WC.seq fun K9 hK9 => ?_
    refine WC.region ?_
    refine WL.val (dx_move rfl rfl) rfl rfl ?_
    refine WL.val (dx_move rfl rfl) rfl rfl ?_
    refine WL.val (dx_eql rfl rfl rfl) rfl rfl ?_
    refine WL.nil ?_
    refine hK9 ?_
    refine WC.cond rfl (fun c10 => ?_) (fun c10 => ?_)
    ·
      replace c10 := of_decide_eq_true c10
      refine WC.seq fun K11 hK11 => ?_
      refine WC.region ?_
      refine WL.val (dx_move rfl rfl) rfl rfl ?_
      refine WL.val (dx_move rfl rfl) rfl rfl ?_
      refine WL.get (dx_apF (rs := []) (news := vs) rfl ty_ap_38 rfl rfl (RdF.nil (L := []) (by decide)) (hV.rd (L := []) (by simp)) hvs (by simp; unfold maxLen; omega) (by simp; omega)) rfl rfl ?_
      rintro u16 W12 ⟨k13, b14, z15⟩
      replace hB := below_then hB b14
      refine WL.val (dx_assign rfl rfl) rfl rfl ?_
      refine WL.nil ?_
      refine hK11 ?_
      refine WC.ret fun a_ ha_ => ?_
      exact hQ (cv_ret1 rfl (.tmp rfl) ⟨w.heap.size, Nat.le_refl _, k13⟩ hB ha_)
    ·
      replace c10 := of_decide_eq_false c10
      exact absurd rfl c10

set_option maxHeartbeats 1000000 in
theorem insertUser_v (rs sp vs vp : List (List Value)) (i : Nat) (B C : Nat) (w : World) (L : List Nat) (hL : LL (B :: L) w) (hO : RwB 3 w B (rs ++ sp)) (hV : RwB 3 w C (vs ++ vp)) (hCB : C ≠ B) (hi : i ≤ rs.length) (hvs : vs ≠ []) (hsm : (rs.length + vs.length) * 56 ≤ 140737488355328) (hone : ∀ r ∈ rs, ∀ u ∈ r, u.oneCell' = true) (hvone : ∀ r ∈ vs, ∀ u ∈ r, u.oneCell' = true) : CW Tryd.prog 34 [.slice (some ⟨B, 0, none⟩) rs.length ((rs ++ sp).length), .int .i64 (i : Int), .slice (some ⟨C, 0, none⟩) vs.length ((vs ++ vp).length)] w B fun v W => ∃ B', OwS 3 W v (rs.take i ++ (vs ++ rs.drop i)) B' ∧ (B' = B ∨ w.heap.size ≤ B') := by
  refine cw_enter (N := 95) (f := [(0, .slice (some ⟨B, 0, none⟩) rs.length ((rs ++ sp).length)), (1, .int .i64 (i : Int)), (2, .slice (some ⟨C, 0, none⟩) vs.length ((vs ++ vp).length))]) Tryd.func34 rfl rfl rfl rfl fun Q hQ hE => ?_
  have hB := Chg.refl B w
  have hlen : (rs ++ sp).length = rs.length + sp.length := List.length_append
  have hm0 := List.length_pos_iff.2 hvs
  refine WC.seq fun K1 hK1 => ?_
  refine WC.region ?_
  refine WL.val (dx_assign rfl rfl) rfl rfl ?_
  refine WL.nil ?_
  refine hK1 ?_
  refine WC.seq fun K2 hK2 => ?_
  refine WC.region ?_
  refine WL.val (dx_move rfl rfl) rfl rfl ?_
  refine WL.val (dx_move rfl rfl) rfl rfl ?_
  refine WL.val (dx_slL i rfl ty_slice_22 rfl rfl rfl (by omega) (by omega)) rfl rfl ?_
  refine WL.nil ?_
  refine hK2 ?_
  refine WC.seq fun K3 hK3 => ?_
  refine WC.region ?_
  refine WL.val (dx_move rfl rfl) rfl rfl ?_
  refine WL.val (dx_len rfl Tryd.underlying22 rfl) rfl rfl ?_
  refine WL.val (dx_assign rfl rfl) rfl rfl ?_
  refine WL.nil ?_
  refine hK3 ?_
  refine WC.seq fun K4 hK4 => ?_
  refine WC.seq fun K5 hK5 => ?_
  refine WC.region ?_
  refine WL.val (dx_move rfl rfl) rfl rfl ?_
  refine WL.val (dx_eql rfl rfl rfl) rfl rfl ?_
  refine WL.nil ?_
  refine hK5 ?_
  refine WC.cond rfl (fun c6 => ?_) (fun c6 => ?_)
  ·
    replace c6 := of_decide_eq_true c6
    exfalso; omega
  ·
    replace c6 := of_decide_eq_false c6
    refine WC.skip ?_
    refine hK4 ?_
    refine WC.seq fun K7 hK7 => ?_
    refine WC.region ?_
    refine WL.val (dx_move rfl rfl) rfl rfl ?_
    refine WL.val (dx_len rfl Tryd.underlying22 rfl) rfl rfl ?_
    refine WL.val (dx_assign rfl rfl) rfl rfl ?_
    refine WL.nil ?_
    refine hK7 ?_
    refine WC.seq fun K8 hK8 => ?_
    refine WC.seq fun K9 hK9 => ?_
    refine WC.region ?_
    refine WL.val (dx_move rfl rfl) rfl rfl ?_
    refine WL.val (dx_move rfl rfl) rfl rfl ?_
    refine WL.val (dx_eql rfl rfl rfl) rfl rfl ?_
    refine WL.nil ?_
    refine hK9 ?_
    refine WC.cond rfl (fun c10 => ?_) (fun c10 => ?_)
    ·
      replace c10 := of_decide_eq_true c10
      refine WC.seq fun K11 hK11 => ?_
      refine WC.region ?_
      refine WL.val (dx_move rfl rfl) rfl rfl ?_
      refine WL.val (dx_move rfl rfl) rfl rfl ?_
      refine WL.get (dx_apO' (rs := rs) (news := vs) rfl ty_ap_22 rfl rfl hO.own (hV.rd (L := []) (by simp)) hvone (by unfold maxLen; omega) (by omega)) rfl rfl ?_
      rintro u16 W12 ⟨B13, k14, g15⟩
      replace hB := hB.grow g15 (.inl rfl)
      refine WL.val (dx_assign rfl rfl) rfl rfl ?_
      refine WL.nil ?_
      refine hK11 ?_
      refine WC.ret fun a_ ha_ => ?_
      exact hQ (cw_ret1 rfl (.tmp rfl) ⟨B13, (by have e : i = rs.length := (by omega); rw [e, List.take_length, List.drop_length, List.append_nil]; exact k14), g15.new_or⟩ hB ha_)
    ·
      replace c10 := of_decide_eq_false c10
      refine WC.skip ?_
      refine hK8 ?_
      refine WC.seq fun K17 hK17 => ?_
      refine WC.seq fun K18 hK18 => ?_
      refine WC.region ?_
      refine WL.val (dx_move rfl rfl) rfl rfl ?_
      refine WL.val (dx_move rfl rfl) rfl rfl ?_
      refine WL.val (dx_add (r := ((rs.length + vs.length : Nat) : Int)) rfl rfl rfl (by rw [wrap64_id (by omega)]; omega)) rfl rfl ?_
      refine WL.val (dx_move rfl rfl) rfl rfl ?_
      refine WL.val (dx_cap rfl Tryd.underlying22 rfl) rfl rfl ?_
      refine WL.val (dx_gtr rfl rfl rfl) rfl rfl ?_
      refine WL.nil ?_
      refine hK18 ?_
      refine WC.cond rfl (fun c19 => ?_) (fun c19 => ?_)
      ·
        replace c19 := of_decide_eq_true c19
        refine WC.seq fun K20 hK20 => ?_
        refine WC.region ?_
        refine WL.val (dx_move rfl rfl) rfl rfl ?_
        refine WL.val (dx_move rfl rfl) rfl rfl ?_
        refine WL.val (dx_slH i rfl ty_slice_22 rfl rfl rfl (by omega)) rfl rfl ?_
        refine WL.val (dx_move rfl rfl) rfl rfl ?_
        refine WL.val (dx_move rfl rfl) rfl rfl ?_
        refine WL.val (dx_add (r := ((rs.length + vs.length : Nat) : Int)) rfl rfl rfl (by rw [wrap64_id (by omega)]; omega)) rfl rfl ?_
        refine WL.val (dx_move rfl rfl) rfl rfl ?_
        refine WL.val (dx_sub (r := ((rs.length + vs.length - i : Nat) : Int)) rfl rfl rfl (by rw [wrap64_id (by omega)]; omega)) rfl rfl ?_
        refine WL.get (dx_apZ (rs.length + vs.length - i) (R := (rs ++ sp)) rfl ty_ap_22 Tryd.underlying3 rfl rfl rfl hO (by omega) (by omega) (by unfold maxLen; omega) (by omega)) rfl rfl ?_
        rintro _ W1 ⟨Z, rfl, hz1, hz2, kZ, bZ, zZ⟩
        have nB : B ≠ w.heap.size := Nat.ne_of_lt hO.lt
        have nC : C ≠ w.heap.size := Nat.ne_of_lt hV.lt
        replace hO := hO.below bZ
        replace hV := hV.below bZ
        replace hB := hB.thenB bZ
        replace hL := LL.more hL zZ
        have hz3 : Z.take i = rs.take i := (by rw [hz2]; exact List.take_append_of_le_length hi)
        have ez : i + (rs.length + vs.length - i) = rs.length + vs.length := (by omega)
        rw [ez] at hz1
        refine WL.val (dx_assign rfl rfl) rfl rfl ?_
        refine WL.nil ?_
        refine hK20 ?_
        refine WC.seq fun K21 hK21 => ?_
        refine WC.region ?_
        refine WL.val (dx_move rfl rfl) rfl rfl ?_
        refine WL.val (dx_move rfl rfl) rfl rfl ?_
        refine WL.val (dx_slL i rfl ty_slice_22 rfl rfl rfl (by omega) (by omega)) rfl rfl ?_
        refine WL.val (dx_move rfl rfl) rfl rfl ?_
        refine WL.get (dx_cpV (B := w.heap.size) (R := Z) (news := vs) (lo := i) (n := (i + (rs.length + vs.length - i) - i)) rfl ty_slice_22 rfl (fun hn => by rw [offV_in (n := (i + (rs.length + vs.length - i) - i)) hn (by omega)]; simp) rfl kZ (hV.rd (L := []) (by simp)) (fun r hr => hvone r (List.mem_of_mem_take hr)) (by omega)) rfl rfl ?_
        rintro _ W22 ⟨rfl, k23, o24⟩
        replace hB := hB.only o24 (.inr (Nat.le_refl _))
        replace hL := LL.only hL o24
        replace hO := hO.other o24 nB
        replace hV := hV.other o24 nC
        rw [List.take_of_length_le (l := vs) (by omega), show min vs.length (i + (rs.length + vs.length - i) - i) = vs.length by omega] at k23
        have l3 : (Z.take i ++ (vs ++ Z.drop (i + vs.length))).length = Z.length := (by simp; omega)
        have hg := ins_grow (vs := vs) hi hz1 hz3
        simp only at hg
        refine WL.nil ?_
        refine hK21 ?_
        refine WC.seq fun K25 hK25 => ?_
        refine WC.drawM 8 [(some 46, .is (.slice (some ⟨w.heap.size, 0, none⟩) (i + (rs.length + vs.length - i)) Z.length)), (some 47, .is (.int .i64 (i : Int))), (some 48, .is (.int .i64 (vs.length : Int))), (some 49, .is (.int .i64 ((i + vs.length : Nat) : Int))), (some 50, .is (.slice (some ⟨w.heap.size, (offV Z.length (i + vs.length) 0 3), none⟩) ((i + (rs.length + vs.length - i)) - (i + vs.length)) (Z.length - (i + vs.length)))), (some 51, .is (.slice (some ⟨B, 0, none⟩) rs.length ((rs ++ sp).length))), (some 52, .is (.int .i64 (i : Int))), (some 53, .is (.slice (some ⟨B, (offV ((rs ++ sp).length) i 0 3), none⟩) (rs.length - i) ((rs ++ sp).length - i)))] [[], [], [], [1, 2], [0, 3], [], [], [5, 6]] (by kernel_rfl) (by kernel_rfl) (by kernel_rfl) (by kernel_rfl) (by kernel_rfl) (by kernel_rfl) (by kernel_rfl) (by exact trivial) ?_ ?_
        ·
          refine DSteps.cons (fun Wd hd => ?_) ?_
          ·
            exact DV.dr (dx_move rfl rfl) ⟨Below.refl _ _, rfl⟩
          refine DSteps.cons (fun Wd hd => ?_) ?_
          ·
            exact DV.dr (dx_move rfl rfl) ⟨Below.refl _ _, rfl⟩
          refine DSteps.cons (fun Wd hd => ?_) ?_
          ·
            exact DV.dr (dx_move rfl rfl) ⟨Below.refl _ _, rfl⟩
          refine DSteps.cons (fun Wd hd => ?_) ?_
          ·
            exact DV.dr (dx_add (r := ((i + vs.length : Nat) : Int)) rfl rfl rfl (by rw [wrap64_id (by omega)]; omega)) ⟨Below.refl _ _, rfl⟩
          refine DSteps.cons (fun Wd hd => ?_) ?_
          ·
            exact DV.dr (dx_slL (i + vs.length) rfl ty_slice_22 rfl rfl rfl (by omega) (by omega)) ⟨Below.refl _ _, rfl⟩
          refine DSteps.cons (fun Wd hd => ?_) ?_
          ·
            exact DV.dr (dx_move rfl rfl) ⟨Below.refl _ _, rfl⟩
          refine DSteps.cons (fun Wd hd => ?_) ?_
          ·
            exact DV.dr (dx_move rfl rfl) ⟨Below.refl _ _, rfl⟩
          refine DSteps.cons (fun Wd hd => ?_) ?_
          ·
            exact DV.dr (dx_slL i rfl ty_slice_22 rfl rfl rfl (by omega) (by omega)) ⟨Below.refl _ _, rfl⟩
          exact trivial
        ·
          intro W26 b27
          replace hO := hO.below b27
          replace hV := hV.below b27
          replace k23 := k23.below b27
          replace hB := hB.thenB b27
          replace hL := LL.below hL b27
          refine WL.get (dx_cpV (B := w.heap.size) (R := (Z.take i ++ (vs ++ Z.drop (i + vs.length)))) (news := (((rs ++ sp).drop i).take (rs.length - i))) (lo := (i + vs.length)) (n := (i + (rs.length + vs.length - i) - (i + vs.length))) rfl ty_slice_22 rfl (fun hn => by rw [offV_in (n := (i + (rs.length + vs.length - i) - (i + vs.length))) hn (by omega)]; simp) rfl k23 (hO.part (L := []) (lo := i) (n := rs.length - i) (by simp) (fun hn => by rw [offV_in (n := rs.length - i) hn (by rw [hlen]; omega)]; simp) (by rw [hlen]; omega) (by rw [hlen]; omega)) (fun r hr => hone r (mem_tail hi (List.mem_of_mem_take hr))) (by omega)) rfl rfl ?_
          rintro _ W28 ⟨rfl, k29, o30⟩
          replace hB := hB.only o30 (.inr (Nat.le_refl _))
          replace hL := LL.only hL o30
          replace hO := hO.other o30 nB
          replace hV := hV.other o30 nC
          rw [show ((rs ++ sp).drop i).take (rs.length - i) = rs.drop i from del_tail hi] at k29
          rw [List.take_of_length_le (l := rs.drop i) (by rw [List.length_drop]; omega), List.length_drop, show min (rs.length - i) (i + (rs.length + vs.length - i) - (i + vs.length)) = rs.length - i by omega, hg] at k29
          have hown := k29.own
          refine WL.nil ?_
          refine hK25 ?_
          refine WC.seq fun K31 hK31 => ?_
          refine WC.region ?_
          refine WL.val (dx_move rfl rfl) rfl rfl ?_
          refine WL.val (dx_assign rfl rfl) rfl rfl ?_
          refine WL.nil ?_
          refine hK31 ?_
          refine WC.ret fun a_ ha_ => ?_
          exact hQ (cw_ret1 rfl (.tmp rfl) ⟨w.heap.size, ins_own_eq hown hi ez.symm (by simp; omega), .inr (Nat.le_refl _)⟩ hB ha_)
      ·
        replace c19 := of_decide_eq_false c19
        refine WC.skip ?_
        refine hK17 ?_
        refine WC.seq fun K32 hK32 => ?_
        refine WC.region ?_
        refine WL.val (dx_move rfl rfl) rfl rfl ?_
        refine WL.val (dx_move rfl rfl) rfl rfl ?_
        refine WL.val (dx_move rfl rfl) rfl rfl ?_
        refine WL.val (dx_add (r := ((rs.length + vs.length : Nat) : Int)) rfl rfl rfl (by rw [wrap64_id (by omega)]; omega)) rfl rfl ?_
        refine WL.val (dx_slH (rs.length + vs.length) rfl ty_slice_22 rfl rfl rfl (by omega)) rfl rfl ?_
        refine WL.val (dx_assign rfl rfl) rfl rfl ?_
        refine WL.nil ?_
        refine hK32 ?_
        refine WC.seq fun K33 hK33 => ?_
        refine WC.seq fun K34 hK34 => ?_
        refine WC.region ?_
        refine WL.val (dx_move rfl rfl) rfl rfl ?_
        refine WL.val (dx_move rfl rfl) rfl rfl ?_
        refine WL.val (dx_move rfl rfl) rfl rfl ?_
        refine WL.val (dx_move rfl rfl) rfl rfl ?_
        refine WL.val (dx_add (r := ((i + vs.length : Nat) : Int)) rfl rfl rfl (by rw [wrap64_id (by omega)]; omega)) rfl rfl ?_
        refine WL.val (dx_slL (i + vs.length) rfl ty_slice_22 rfl rfl rfl (by omega) (by omega)) rfl rfl ?_
        refine WL.val (dx_ovl (U := (rs ++ sp)) (V := (vs ++ vp)) (s := 3) (tR := 4) rfl Tryd.func52 (by kernel_rfl) (by kernel_rfl) (by kernel_rfl) (by kernel_rfl) ty_slice_22 rfl rfl hV hO hCB (by intro e; rw [e] at hlen; simp only [List.length_nil] at hlen; omega)) rfl rfl ?_
        refine WL.val (dx_not rfl rfl) rfl rfl ?_
        refine WL.nil ?_
        refine hK34 ?_
        refine WC.condT rfl ?_
        refine WC.seq fun K35 hK35 => ?_
        refine WC.drawM 8 [(some 69, .is (.slice (some ⟨B, 0, none⟩) (rs.length + vs.length) ((rs ++ sp).length))), (some 70, .is (.int .i64 (i : Int))), (some 71, .is (.int .i64 (vs.length : Int))), (some 72, .is (.int .i64 ((i + vs.length : Nat) : Int))), (some 73, .is (.slice (some ⟨B, (offV ((rs ++ sp).length) (i + vs.length) 0 3), none⟩) ((rs.length + vs.length) - (i + vs.length)) ((rs ++ sp).length - (i + vs.length)))), (some 74, .is (.slice (some ⟨B, 0, none⟩) (rs.length + vs.length) ((rs ++ sp).length))), (some 75, .is (.int .i64 (i : Int))), (some 76, .is (.slice (some ⟨B, (offV ((rs ++ sp).length) i 0 3), none⟩) ((rs.length + vs.length) - i) ((rs ++ sp).length - i)))] [[], [], [], [1, 2], [0, 3], [], [], [5, 6]] (by kernel_rfl) (by kernel_rfl) (by kernel_rfl) (by kernel_rfl) (by kernel_rfl) (by kernel_rfl) (by kernel_rfl) (by exact trivial) ?_ ?_
        ·
          refine DSteps.cons (fun Wd hd => ?_) ?_
          ·
            exact DV.dr (dx_move rfl rfl) ⟨Below.refl _ _, rfl⟩
          refine DSteps.cons (fun Wd hd => ?_) ?_
          ·
            exact DV.dr (dx_move rfl rfl) ⟨Below.refl _ _, rfl⟩
          refine DSteps.cons (fun Wd hd => ?_) ?_
          ·
            exact DV.dr (dx_move rfl rfl) ⟨Below.refl _ _, rfl⟩
          refine DSteps.cons (fun Wd hd => ?_) ?_
          ·
            exact DV.dr (dx_add (r := ((i + vs.length : Nat) : Int)) rfl rfl rfl (by rw [wrap64_id (by omega)]; omega)) ⟨Below.refl _ _, rfl⟩
          refine DSteps.cons (fun Wd hd => ?_) ?_
          ·
            exact DV.dr (dx_slL (i + vs.length) rfl ty_slice_22 rfl rfl rfl (by omega) (by omega)) ⟨Below.refl _ _, rfl⟩
          refine DSteps.cons (fun Wd hd => ?_) ?_
          ·
            exact DV.dr (dx_move rfl rfl) ⟨Below.refl _ _, rfl⟩
          refine DSteps.cons (fun Wd hd => ?_) ?_
          ·
            exact DV.dr (dx_move rfl rfl) ⟨Below.refl _ _, rfl⟩
          refine DSteps.cons (fun Wd hd => ?_) ?_
          ·
            exact DV.dr (dx_slL i rfl ty_slice_22 rfl rfl rfl (by omega) (by omega)) ⟨Below.refl _ _, rfl⟩
          exact trivial
        ·
          intro W36 b37
          replace hO := hO.below b37
          replace hV := hV.below b37
          replace hB := hB.thenB b37
          replace hL := LL.below hL b37
          refine WL.get (dx_cpV (B := B) (R := (rs ++ sp)) (news := (((rs ++ sp).drop i).take (rs.length + vs.length - i))) (lo := (i + vs.length)) (n := (rs.length + vs.length - (i + vs.length))) rfl ty_slice_22 rfl (fun hn => by rw [offV_in (n := (rs.length + vs.length - (i + vs.length))) hn (by omega)]; simp) rfl hO (hO.part (L := []) (lo := i) (n := rs.length + vs.length - i) (by simp) (fun hn => by rw [offV_in (n := rs.length + vs.length - i) hn (by omega)]; simp) (by omega) (by omega)) (fun r hr => hone r (mem_tail2 hi (by omega) (by omega) hr)) (by omega)) rfl rfl ?_
          rintro _ W38 ⟨rfl, k39, o40⟩
          replace hB := hB.only o40 (.inl rfl)
          replace hL := LL.only hL o40
          replace hV := hV.other o40 hCB
          have ll : (((rs ++ sp).drop i).take (rs.length + vs.length - i)).length = rs.length + vs.length - i := (by rw [List.length_take, List.length_drop]; omega)
          rw [ll, show min (rs.length + vs.length - i) (rs.length + vs.length - (i + vs.length)) = rs.length - i by omega, show rs.length + vs.length - (i + vs.length) = rs.length - i by omega] at k39
          have l3 : ((rs ++ sp).take (i + vs.length) ++ ((((rs ++ sp).drop i).take (rs.length + vs.length - i)).take (rs.length - i) ++ (rs ++ sp).drop (i + vs.length + (rs.length - i)))).length = (rs ++ sp).length := (by simp; omega)
          have hg := ins_room (vs := vs) (sp := sp) hi (by omega)
          simp only at hg
          refine WL.nil ?_
          refine hK35 ?_
          refine WC.seq fun K41 hK41 => ?_
          refine WC.region ?_
          refine WL.val (dx_move rfl rfl) rfl rfl ?_
          refine WL.val (dx_move rfl rfl) rfl rfl ?_
          refine WL.val (dx_slL i rfl ty_slice_22 rfl rfl rfl (by omega) (by omega)) rfl rfl ?_
          refine WL.val (dx_move rfl rfl) rfl rfl ?_
          refine WL.get (dx_cpV (B := B) (R := ((rs ++ sp).take (i + vs.length) ++ ((((rs ++ sp).drop i).take (rs.length + vs.length - i)).take (rs.length - i) ++ (rs ++ sp).drop (i + vs.length + (rs.length - i))))) (news := vs) (lo := i) (n := (rs.length + vs.length - i)) rfl ty_slice_22 rfl (fun hn => by rw [offV_in (n := (rs.length + vs.length - i)) hn (by omega)]; simp) rfl k39 (hV.rd (L := []) (by simp)) (fun r hr => hvone r (List.mem_of_mem_take hr)) (by omega)) rfl rfl ?_
          rintro _ W42 ⟨rfl, k43, o44⟩
          replace hB := hB.only o44 (.inl rfl)
          replace hL := LL.only hL o44
          replace hV := hV.other o44 hCB
          rw [List.take_of_length_le (l := vs) (by omega), show min vs.length (rs.length + vs.length - i) = vs.length by omega, hg] at k43
          have hown := k43.own
          refine WL.nil ?_
          refine hK41 ?_
          refine WC.seq fun K45 hK45 => ?_
          refine WC.region ?_
          refine WL.val (dx_move rfl rfl) rfl rfl ?_
          refine WL.val (dx_assign rfl rfl) rfl rfl ?_
          refine WL.nil ?_
          refine hK45 ?_
          refine WC.ret fun a_ ha_ => ?_
          exact hQ (cw_ret1 rfl (.tmp rfl) ⟨B, ins_own_eq hown hi rfl (by simp; omega), .inl rfl⟩ hB ha_)

set_option maxHeartbeats 1000000 in
theorem insertNUser_v (vs vp : List (List Value)) (C : Nat) (w : World) (L : List Nat) (hL : LL L w)   (hV : RwB 3 w C (vs ++ vp)) (hvs : vs ≠ []) (hsm : vs.length * 56 ≤ 140737488355328) : CV Tryd.prog 34 [.slice none 0 0, .int .i64 0, .slice (some ⟨C, 0, none⟩) vs.length ((vs ++ vp).length)] w fun v W => ∃ B, w.heap.size ≤ B ∧ OwS 3 W v vs B := by
  refine cv_enter (N := 95) (f := [(0, .slice none 0 0), (1, .int .i64 0), (2, .slice (some ⟨C, 0, none⟩) vs.length ((vs ++ vp).length))]) Tryd.func34 rfl rfl rfl rfl fun Q hQ hE => ?_
  have hB := Below.refl w.heap.size w
  have hm0 := List.length_pos_iff.2 hvs
  refine WC.seq fun K1 hK1 => ?_
  refine WC.region ?_
  refine WL.val (dx_assign rfl rfl) rfl rfl ?_
  refine WL.nil ?_
  refine hK1 ?_
  refine WC.seq fun K2 hK2 => ?_
  refine WC.region ?_
  refine WL.val (dx_move rfl rfl) rfl rfl ?_
  refine WL.val (dx_move rfl rfl) rfl rfl ?_
  refine WL.val (dx_slN rfl ty_slice_22 rfl rfl) rfl rfl ?_
  refine WL.nil ?_
  refine hK2 ?_
  refine WC.seq fun K3 hK3 => ?_
  refine WC.region ?_
  refine WL.val (dx_move rfl rfl) rfl rfl ?_
  refine WL.val (dx_len rfl Tryd.underlying22 rfl) rfl rfl ?_
  refine WL.val (dx_assign rfl rfl) rfl rfl ?_
  refine WL.nil ?_
  refine hK3 ?_
  refine WC.seq fun K4 hK4 => ?_
  refine WC.seq fun K5 hK5 => ?_
  refine WC.region ?_
  refine WL.val (dx_move rfl rfl) rfl rfl ?_
  refine WL.val (dx_eql rfl rfl rfl) rfl rfl ?_
  refine WL.nil ?_
  refine hK5 ?_
  refine WC.cond rfl (fun c6 => ?_) (fun c6 => ?_)
  ·
    replace c6 := of_decide_eq_true c6
    exfalso; omega
  ·
    replace c6 := of_decide_eq_false c6
    refine WC.skip ?_
    refine hK4 ?_
    refine WC.seq fun K7 hK7 => ?_
    refine WC.region ?_
    refine WL.val (dx_move rfl rfl) rfl rfl ?_
    refine WL.val (dx_len rfl Tryd.underlying22 rfl) rfl rfl ?_
    refine WL.val (dx_assign rfl rfl) rfl rfl ?_
    refine WL.nil ?_
    refine hK7 ?_
    refine WC.seq fun K8 hK8 => ?_
    refine WC.seq fun K9 hK9 => ?_
    refine WC.region ?_
    refine WL.val (dx_move rfl rfl) rfl rfl ?_
    refine WL.val (dx_move rfl rfl) rfl rfl ?_
    refine WL.val (dx_eql rfl rfl rfl) rfl rfl ?_
    refine WL.nil ?_
    refine hK9 ?_
    refine WC.cond rfl (fun c10 => ?_) (fun c10 => ?_)
    ·
      replace c10 := of_decide_eq_true c10
      refine WC.seq fun K11 hK11 => ?_
      refine WC.region ?_
      refine WL.val (dx_move rfl rfl) rfl rfl ?_
      refine WL.val (dx_move rfl rfl) rfl rfl ?_
      refine WL.get (dx_apF (rs := []) (news := vs) rfl ty_ap_22 rfl rfl (RdF.nil (L := []) (by decide)) (hV.rd (L := []) (by simp)) hvs (by simp; unfold maxLen; omega) (by simp; omega)) rfl rfl ?_
      rintro u16 W12 ⟨k13, b14, z15⟩
      replace hB := below_then hB b14
      refine WL.val (dx_assign rfl rfl) rfl rfl ?_
      refine WL.nil ?_
      refine hK11 ?_
      refine WC.ret fun a_ ha_ => ?_
      exact hQ (cv_ret1 rfl (.tmp rfl) ⟨w.heap.size, Nat.le_refl _, k13⟩ hB ha_)
    ·
      replace c10 := of_decide_eq_false c10
      exact absurd rfl c10

end Go.Proofs.YthefddclefimoaaDoor

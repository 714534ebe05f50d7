/- Package bond: Bind, Unbind, Of. Arrays of three as values; tests that cannot be. No program stands here. bond.Of; BondCounts. The fixed fact of layer 18; BondCounts. -/
import Derived.Test.YthefddclefimoaaDoorKC
namespace Go.Proofs.YthefddclefimoaaDoor
open Go.RowKit
set_option linter.unusedVariables false
set_option linter.unusedSimpArgs false
set_option maxRecDepth 8000

abbrev atB (xs : List BondX) (wt : BondX) : Int × Bool := placeB xs wt.1.1 wt.1.2
def bindE (xs : List BondX) (wt : BondX) : Int := if rightB xs = true ∧ goodB wt = true then (if (atB xs wt).2 = true then 0 else if (xs.length : Int) = 64 then 10 else 0) else 1
def bindB (xs : List BondX) (wt : BondX) : List BondX := if bindE xs wt = 0 then (if (atB xs wt).2 = true then xs.set (atB xs wt).1.toNat wt else xs.take (atB xs wt).1.toNat ++ (wt :: xs.drop (atB xs wt).1.toNat)) else xs
def unbE (xs : List BondX) (wt : BondX) : Int := if rightB xs = true then (if (atB xs wt).2 = true then (if ((xs[(atB xs wt).1.toNat]?).getD noB).2.1 = wt.2.1 then 0 else 14) else 7) else 1
def unbB (xs : List BondX) (wt : BondX) : List BondX := if unbE xs wt = 0 then xs.take (atB xs wt).1.toNat ++ xs.drop ((atB xs wt).1.toNat + 1) else xs
def encAd (p : ByteArray × ByteArray) : List Value := [.string p.1, .string p.2]
theorem oc_Ad (p : ByteArray × ByteArray) : ∀ u ∈ encAd p, u.oneCell' = true := oc_cons rfl (oc_cons rfl oc_nil)
def ofB (xs : List BondX) (mx : ByteArray) : List (ByteArray × ByteArray) := if rightB xs = true then (xs.filter fun b => decide (b.2.1 = mx)).map (·.1) else []
theorem ins_rowsB (xs : List BondX) (wt : BondX) (k : Nat) : (xs.map encB).take k ++ ([encB wt] ++ (xs.map encB).drop k) = (xs.take k ++ (wt :: xs.drop k)).map encB := by simp
theorem del_rowsB (xs : List BondX) (k : Nat) : (xs.map encB).take k ++ (xs.map encB).drop (k + 1) = (xs.take k ++ xs.drop (k + 1)).map encB := by simp
theorem of_step {xs : List BondX} {i : Nat} {b : BondX} (mx : ByteArray) (h : xs[i]? = some b) : ((xs.take (i + 1)).filter fun b => decide (b.2.1 = mx)).map (·.1) = ((xs.take i).filter fun b => decide (b.2.1 = mx)).map (·.1) ++ (if b.2.1 = mx then [b.1] else []) := by
  obtain ⟨hl, rfl⟩ := List.getElem?_eq_some_iff.1 h
  rw [List.take_succ_eq_append_getElem hl, List.filter_append, List.map_append]
  by_cases hm : xs[i].2.1 = mx
  · simp [hm]
  · simp [hm]
set_option maxHeartbeats 1000000 in
theorem bind_v (xs : List BondX) (wt : BondX) (sv : Value) (w : World) (L : List Nat) (hL : LL L w) (h1 : RdF 4 L w sv (xs.map encB)) (hM : MaxL L w)  (hsz : smallB xs) (hw : wt.1.2.size ≤ 140737488355328) : CV Tryd.prog 16 [sv, .agg #[.string wt.1.1, .string wt.1.2, .string wt.2.1, .int .i64 wt.2.2]] w fun v W => ∃ s2, v = .tuple #[s2, .int .i64 (bindE xs wt)] ∧ RdF 4 L W s2 ((bindB xs wt).map encB) := by
  refine cv_enter (N := 43) (f := [(0, sv), (1, .agg #[.string wt.1.1, .string wt.1.2, .string wt.2.1, .int .i64 wt.2.2])]) Tryd.func16 rfl rfl rfl rfl fun Q hQ hE => ?_
  have hB := Below.refl w.heap.size w
  have hL0 := hL
  have h1m : xs.length ≤ maxLen := by have := h1.len; rwa [List.length_map] at this
  unfold maxLen at h1m
  refine WC.seq fun K1 hK1 => ?_
  refine WC.region ?_
  refine WL.get (dx_box rfl rfl rfl) rfl rfl ?_
  rintro _ W2 ⟨rfl, k3, b4, z5⟩
  have l6 := hB.size
  replace h1 := h1.more b4 (Nat.le_refl _)
  replace hM := hM.more b4 (Nat.le_refl _)
  replace hB := below_then hB b4
  replace hL := LL.more hL z5
  refine WL.val (dx_assign rfl rfl) rfl rfl ?_
  refine WL.val (dx_assign rfl rfl) rfl rfl ?_
  refine WL.nil ?_
  refine hK1 ?_
  refine WC.seq fun K7 hK7 => ?_
  refine WC.seq fun K8 hK8 => ?_
  refine WC.region ?_
  refine WL.val (dx_move rfl rfl) rfl rfl ?_
  refine WL.get (dx_cv rfl Tryd.func18 rfl rfl rfl (rightB_v xs _ W2 _ hL h1 hM hsz)) rfl rfl ?_
  rintro _ W10 ⟨rfl, b9⟩
  replace h1 := h1.below b9
  replace hM := hM.below b9
  replace k3 := k3.below b9
  replace hB := below_then hB b9
  replace hL := LL.below hL b9
  refine WL.val (dx_not rfl rfl) rfl rfl ?_
  refine WL.val (dx_move rfl rfl) rfl rfl ?_
  refine WL.split 12 rfl (fun g11 => ?_) (fun g11 => ?_)
  ·
    replace g11 := bnot_t g11
    refine WL.off rfl rfl rfl ?_
    refine WL.off rfl rfl rfl ?_
    refine WL.off rfl rfl rfl ?_
    refine WL.val (dx_pick rfl rfl rfl) rfl rfl ?_
    refine WL.nil ?_
    refine hK8 ?_
    refine WC.condT rfl ?_
    refine WC.seq fun K12 hK12 => ?_
    refine WC.region ?_
    refine WL.val (dx_move rfl rfl) rfl rfl ?_
    refine WL.val (dx_assign rfl rfl) rfl rfl ?_
    refine WL.val (dx_assign rfl rfl) rfl rfl ?_
    refine WL.nil ?_
    refine hK12 ?_
    refine WC.ret fun a_ ha_ => ?_
    exact hQ (cv_ret2 rfl (.tmp rfl) (.tmp rfl) (by have he : bindE xs wt = 1 := (by unfold bindE; rw [if_neg (by intro h; simp_all)]); have hr : bindB xs wt = xs := (by unfold bindB; rw [if_neg (by rw [he]; decide)]); rw [he, hr]; exact ⟨_, rfl, (h1.less (fun x hx => (.tail _ hx)))⟩) hB ha_)
  ·
    replace g11 := bnot_f g11
    refine WL.val (dx_loadN rfl ty_agg_45_4 rfl k3.range rfl) rfl rfl ?_
    refine WL.get (dx_cv rfl Tryd.func42 rfl rfl rfl (goodB_v wt W10 _ hL hM hw)) rfl rfl ?_
    rintro _ W14 ⟨rfl, b13⟩
    replace h1 := h1.below b13
    replace hM := hM.below b13
    replace k3 := k3.below b13
    replace hB := below_then hB b13
    replace hL := LL.below hL b13
    refine WL.val (dx_not rfl rfl) rfl rfl ?_
    refine WL.val (dx_pick rfl rfl rfl) rfl rfl ?_
    refine WL.nil ?_
    refine hK8 ?_
    refine WC.cond rfl (fun c15 => ?_) (fun c15 => ?_)
    ·
      replace c15 := bnot_t c15
      refine WC.seq fun K16 hK16 => ?_
      refine WC.region ?_
      refine WL.val (dx_move rfl rfl) rfl rfl ?_
      refine WL.val (dx_assign rfl rfl) rfl rfl ?_
      refine WL.val (dx_assign rfl rfl) rfl rfl ?_
      refine WL.nil ?_
      refine hK16 ?_
      refine WC.ret fun a_ ha_ => ?_
      exact hQ (cv_ret2 rfl (.tmp rfl) (.tmp rfl) (by have he : bindE xs wt = 1 := (by unfold bindE; rw [if_neg (by intro h; simp_all)]); have hr : bindB xs wt = xs := (by unfold bindB; rw [if_neg (by rw [he]; decide)]); rw [he, hr]; exact ⟨_, rfl, (h1.less (fun x hx => (.tail _ hx)))⟩) hB ha_)
    ·
      replace c15 := bnot_f c15
      refine WC.skip ?_
      refine hK7 ?_
      refine WC.seq fun K17 hK17 => ?_
      refine WC.region ?_
      refine WL.val (dx_move rfl rfl) rfl rfl ?_
      refine WL.val (dx_fld (o1 := 0) rfl ty_fld_45_0_0 rfl rfl) rfl rfl ?_
      refine WL.val (dx_loadN (cs := [.string wt.1.1, .string wt.1.2]) rfl ty_agg_43_2 rfl (k3.part 0 2) rfl) rfl rfl ?_
      refine WL.get (dx_cv rfl Tryd.func39 rfl rfl rfl (place_v xs wt.1.1 wt.1.2 _ W14 _ hL h1)) rfl rfl ?_
      rintro _ W19 ⟨rfl, b18⟩
      replace h1 := h1.below b18
      replace hM := hM.below b18
      replace k3 := k3.below b18
      replace hB := below_then hB b18
      replace hL := LL.below hL b18
      refine WL.val (dx_move rfl rfl) rfl rfl ?_
      refine WL.val (dx_extract rfl rfl rfl) rfl rfl ?_
      refine WL.val (dx_extract rfl rfl rfl) rfl rfl ?_
      refine WL.val (dx_assign rfl rfl) rfl rfl ?_
      refine WL.val (dx_assign rfl rfl) rfl rfl ?_
      refine WL.nil ?_
      refine hK17 ?_
      refine WC.seq fun K20 hK20 => ?_
      refine WC.seq fun K21 hK21 => ?_
      refine WC.region ?_
      refine WL.val (dx_move rfl rfl) rfl rfl ?_
      refine WL.nil ?_
      refine hK21 ?_
      refine WC.cond rfl (fun c22 => ?_) (fun c22 => ?_)
      ·
        refine WC.seq fun K23 hK23 => ?_
        obtain ⟨k0, hk0, hkl, hlo, hcs⟩ := placeB_cases xs wt.1.1 wt.1.2
        have hrl := right_len (show rightB xs = true by assumption)
        obtain ⟨b0, hb0, hbm, hbx⟩ : ∃ b, xs[k0]? = some b ∧ b.1.1 = wt.1.1 ∧ b.1.2 = wt.1.2 := (by rcases hcs with ⟨_, h⟩ | ⟨h, _⟩; exact h; exact absurd (show (placeB xs wt.1.1 wt.1.2).2 = true by assumption) (by rw [h]; decide))
        have hl0 := (List.getElem?_eq_some_iff.1 hb0).1
        refine WC.region ?_
        refine WL.val (dx_move rfl rfl) rfl rfl ?_
        refine WL.get (dx_cv rfl Tryd.func41 rfl rfl rfl (cloneSBond_v _ _ W19 _ hL h1 (oc_rowsX oc_B xs) (by rw [List.length_map]; omega))) rfl rfl ?_
        rintro u24 W25 ⟨p26, b27⟩
        obtain ⟨B28, q29, k30⟩ := p26.own (fun e => by have := congrArg List.length e; rw [List.length_map, List.length_nil] at this; omega)
        have n31 : w.heap.size ≠ B28 := Nat.ne_of_lt (Nat.lt_of_lt_of_le k3.lt q29)
        have l32 := Nat.le_trans hB.size q29
        replace h1 := h1.more b27 q29
        replace hM := hM.more b27 q29
        replace k3 := k3.below b27
        replace hB := below_then hB b27
        replace hL := LL.cons (LL.below hL b27) k30.lt
        refine WL.val (dx_assign rfl rfl) rfl rfl ?_
        refine WL.nil ?_
        refine hK23 ?_
        refine WC.seq fun K33 hK33 => ?_
        refine WC.region ?_
        refine WL.val (dx_move rfl rfl) rfl rfl ?_
        refine WL.val (dx_move rfl rfl) rfl rfl ?_
        refine WL.val (dx_loadN rfl ty_agg_45_4 rfl k3.range rfl) rfl rfl ?_
        refine WL.val (dx_idxO k0 rfl ty_slice_38 rfl rfl k30 (by omega) (by rw [List.length_map]; omega) rfl) rfl rfl ?_
        refine WL.do (dx_storeO (k := k0) (r := encB wt) rfl ty_size_45_4 rfl rfl rfl (oc_B wt) k30 rfl (by rw [List.length_map]; exact hl0) rfl) rfl ?_
        rintro _ W34 ⟨k36, o35⟩
        replace k3 := k3.other o35 n31
        clear k30
        replace h1 := h1.only o35 (.head _)
        replace hM := hM.only o35 (.head _)
        replace hB := o35.below hB l32
        replace hL := LL.only hL o35
        rw [← List.map_set] at k36
        refine WL.nil ?_
        refine hK33 ?_
        refine WC.seq fun K37 hK37 => ?_
        refine WC.region ?_
        refine WL.val (dx_move rfl rfl) rfl rfl ?_
        refine WL.val (dx_assign rfl rfl) rfl rfl ?_
        refine WL.val (dx_assign rfl rfl) rfl rfl ?_
        refine WL.nil ?_
        refine hK37 ?_
        refine WC.ret fun a_ ha_ => ?_
        exact hQ (cv_ret2 rfl (.tmp rfl) (.tmp rfl) (by have he : bindE xs wt = 0 := (by unfold bindE; rw [if_pos ⟨by assumption, by assumption⟩, if_pos (by assumption)]); have hr : bindB xs wt = xs.set k0 wt := (by unfold bindB; rw [if_pos he, if_pos (by assumption), hk0, Int.toNat_natCast]); rw [he, hr]; exact ⟨_, rfl, k36.notin hL0 l32⟩) hB ha_)
      ·
        refine WC.skip ?_
        refine hK20 ?_
        refine WC.seq fun K38 hK38 => ?_
        refine WC.seq fun K39 hK39 => ?_
        obtain ⟨k0, hk0, hkl, hlo, hcs⟩ := placeB_cases xs wt.1.1 wt.1.2
        have hrl := right_len (show rightB xs = true by assumption)
        refine WC.region ?_
        refine WL.val (dx_move rfl rfl) rfl rfl ?_
        refine WL.val (dx_lenX rfl ty_slice_38 rfl h1) rfl rfl ?_
        refine WL.val (dx_eql rfl rfl rfl) rfl rfl ?_
        refine WL.nil ?_
        refine hK39 ?_
        refine WC.cond rfl (fun c40 => ?_) (fun c40 => ?_)
        ·
          replace c40 := of_decide_eq_true c40
          refine WC.seq fun K41 hK41 => ?_
          refine WC.region ?_
          refine WL.val (dx_move rfl rfl) rfl rfl ?_
          refine WL.val (dx_assign rfl rfl) rfl rfl ?_
          refine WL.val (dx_assign rfl rfl) rfl rfl ?_
          refine WL.nil ?_
          refine hK41 ?_
          refine WC.ret fun a_ ha_ => ?_
          exact hQ (cv_ret2 rfl (.tmp rfl) (.tmp rfl) (by have he : bindE xs wt = 10 := (by unfold bindE; rw [if_pos ⟨by assumption, by assumption⟩, if_neg (by rw [show (placeB xs wt.1.1 wt.1.2).2 = false by assumption]; decide), if_pos (by assumption)]); have hr : bindB xs wt = xs := (by unfold bindB; rw [if_neg (by rw [he]; decide)]); rw [he, hr]; exact ⟨_, rfl, (h1.less (fun x hx => (.tail _ hx)))⟩) hB ha_)
        ·
          replace c40 := of_decide_eq_false c40
          refine WC.skip ?_
          refine hK38 ?_
          refine WC.seq fun K42 hK42 => ?_
          have hno : (placeB xs wt.1.1 wt.1.2).2 = false := (by assumption)
          have zh1 := h1
          have zhM := hM
          have zk3 := k3
          have zhB := hB
          have zhL := hL
          refine WC.drawM 5 [(some 37, .is (sv)), (some 38, .by fun u W => NewS 4 W19.heap.size (xs.map encB) u W), (some 39, .is (.int .i64 ((placeB xs wt.1.1 wt.1.2).1))), (some 40, .is (.agg #[.string wt.1.1, .string wt.1.2, .string wt.2.1, .int .i64 wt.2.2])), (some 41, .by fun u W => NewS 4 W19.heap.size [encB wt] u W)] [[], [0], [], [], [3]] (by kernel_rfl) (by kernel_rfl) (by kernel_rfl) (by kernel_rfl) (by kernel_rfl) (by kernel_rfl) (by kernel_rfl) ⟨fun _ _ _ hb h => h.below hb, fun _ _ _ hb h => h.below hb, trivial⟩ ?_ ?_
          ·
            refine DSteps.cons (fun Wd hd => ?_) ?_
            ·
              exact DV.dr (dx_move rfl rfl) ⟨Below.refl _ _, rfl⟩
            refine DSteps.cons (fun Wd hd => ?_) ?_
            ·
              have h1 := h1.below hd
              exact DR.mono (dx_cv rfl Tryd.func41 rfl rfl rfl (cloneSBond_v _ _ Wd _ (LL.below hL hd) h1 (oc_rowsX oc_B xs) (by rw [List.length_map]; omega))) (fun v W' h => ⟨h.2, h.1.le hd.size⟩)
            refine DSteps.cons (fun Wd hd => ?_) ?_
            ·
              exact DV.dr (dx_move rfl rfl) ⟨Below.refl _ _, rfl⟩
            refine DSteps.cons (fun Wd hd => ?_) ?_
            ·
              have k3 := k3.below hd
              exact DV.dr (dx_loadN rfl ty_agg_45_4 rfl k3.range rfl) ⟨Below.refl _ _, rfl⟩
            refine DSteps.cons (fun Wd hd => ?_) ?_
            ·
              exact (dx_lit1 (r := encB wt) rfl ty_ap_38 (by decide) (by decide) rfl rfl rfl).mono (fun v W' h => ⟨h.2.1, NewS.of_own h.1 hd.size (by simp)⟩)
            exact trivial
          ·
            intro W43 b44
            intro u10_1 p10_1
            intro u10_4 p10_4
            replace h1 := h1.below b44
            replace hM := hM.below b44
            replace k3 := k3.below b44
            replace hB := below_then hB b44
            replace hL := LL.below hL b44
            refine WL.get (dx_callA rfl Tryd.func43 rfl rfl rfl (insertSBond_v _ _ k0 _ _ _ _ W43 hk0 p10_1 p10_4 b44.size (by rw [List.length_map]; exact hkl) (by rw [List.length_map]; omega) (oc_rowsX oc_B xs) (oc_B wt) (bind_ne (by assumption) hno))) rfl rfl ?_
            rintro x45 W46 ⟨⟨B47, q48, k49⟩, b50⟩
            have b51 := b44.trans b50
            rw [ins_rowsB] at k49
            replace h1 := zh1
            replace hM := zhM
            replace k3 := zk3
            replace hB := zhB
            replace hL := zhL
            have n52 : w.heap.size ≠ B47 := Nat.ne_of_lt (Nat.lt_of_lt_of_le k3.lt q48)
            have l53 := Nat.le_trans hB.size q48
            replace h1 := h1.more b51 q48
            replace hM := hM.more b51 q48
            replace k3 := k3.below b51
            replace hB := below_then hB b51
            replace hL := LL.cons (LL.below hL b51) k49.lt
            refine WL.val (dx_assign rfl rfl) rfl rfl ?_
            refine WL.val (dx_assign rfl rfl) rfl rfl ?_
            refine WL.nil ?_
            refine hK42 ?_
            refine WC.ret fun a_ ha_ => ?_
            exact hQ (cv_ret2 rfl (.tmp rfl) (.tmp rfl) (by have he : bindE xs wt = 0 := (by unfold bindE; rw [if_pos ⟨by assumption, by assumption⟩, if_neg (by rw [hno]; decide), if_neg (by assumption)]); have hr : bindB xs wt = xs.take k0 ++ (wt :: xs.drop k0) := (by unfold bindB; rw [if_pos he, if_neg (by rw [hno]; decide), hk0, Int.toNat_natCast]); rw [he, hr]; exact ⟨_, rfl, k49.notin hL0 l53⟩) hB ha_)

set_option maxHeartbeats 1000000 in
theorem unbind_v (xs : List BondX) (wt : BondX) (sv : Value) (w : World) (L : List Nat) (hL : LL L w) (h1 : RdF 4 L w sv (xs.map encB)) (hM : MaxL L w)  (hsz : smallB xs) : CV Tryd.prog 15 [sv, .agg #[.string wt.1.1, .string wt.1.2, .string wt.2.1, .int .i64 wt.2.2]] w fun v W => ∃ s2, v = .tuple #[s2, .int .i64 (unbE xs wt)] ∧ RdF 4 L W s2 ((unbB xs wt).map encB) := by
  refine cv_enter (N := 37) (f := [(0, sv), (1, .agg #[.string wt.1.1, .string wt.1.2, .string wt.2.1, .int .i64 wt.2.2])]) Tryd.func15 rfl rfl rfl rfl fun Q hQ hE => ?_
  have hB := Below.refl w.heap.size w
  have hL0 := hL
  have h1m : xs.length ≤ maxLen := by have := h1.len; rwa [List.length_map] at this
  unfold maxLen at h1m
  refine WC.seq fun K1 hK1 => ?_
  refine WC.region ?_
  refine WL.get (dx_box rfl rfl rfl) rfl rfl ?_
  rintro _ W2 ⟨rfl, k3, b4, z5⟩
  have l6 := hB.size
  replace h1 := h1.more b4 (Nat.le_refl _)
  replace hM := hM.more b4 (Nat.le_refl _)
  replace hB := below_then hB b4
  replace hL := LL.more hL z5
  refine WL.val (dx_assign rfl rfl) rfl rfl ?_
  refine WL.val (dx_assign rfl rfl) rfl rfl ?_
  refine WL.nil ?_
  refine hK1 ?_
  refine WC.seq fun K7 hK7 => ?_
  refine WC.seq fun K8 hK8 => ?_
  refine WC.region ?_
  refine WL.val (dx_move rfl rfl) rfl rfl ?_
  refine WL.get (dx_cv rfl Tryd.func18 rfl rfl rfl (rightB_v xs _ W2 _ hL h1 hM hsz)) rfl rfl ?_
  rintro _ W10 ⟨rfl, b9⟩
  replace h1 := h1.below b9
  replace hM := hM.below b9
  replace k3 := k3.below b9
  replace hB := below_then hB b9
  replace hL := LL.below hL b9
  refine WL.val (dx_not rfl rfl) rfl rfl ?_
  refine WL.nil ?_
  refine hK8 ?_
  refine WC.cond rfl (fun c11 => ?_) (fun c11 => ?_)
  ·
    replace c11 := bnot_t c11
    refine WC.seq fun K12 hK12 => ?_
    refine WC.region ?_
    refine WL.val (dx_move rfl rfl) rfl rfl ?_
    refine WL.val (dx_assign rfl rfl) rfl rfl ?_
    refine WL.val (dx_assign rfl rfl) rfl rfl ?_
    refine WL.nil ?_
    refine hK12 ?_
    refine WC.ret fun a_ ha_ => ?_
    exact hQ (cv_ret2 rfl (.tmp rfl) (.tmp rfl) (by have he : unbE xs wt = 1 := (by unfold unbE; rw [if_neg (by intro h; simp_all)]); have hr : unbB xs wt = xs := (by unfold unbB; rw [if_neg (by rw [he]; decide)]); rw [he, hr]; exact ⟨_, rfl, (h1.less (fun x hx => (.tail _ hx)))⟩) hB ha_)
  ·
    replace c11 := bnot_f c11
    refine WC.skip ?_
    refine hK7 ?_
    refine WC.seq fun K13 hK13 => ?_
    refine WC.region ?_
    refine WL.val (dx_move rfl rfl) rfl rfl ?_
    refine WL.val (dx_fld (o1 := 0) rfl ty_fld_45_0_0 rfl rfl) rfl rfl ?_
    refine WL.val (dx_loadN (cs := [.string wt.1.1, .string wt.1.2]) rfl ty_agg_43_2 rfl (k3.part 0 2) rfl) rfl rfl ?_
    refine WL.get (dx_cv rfl Tryd.func39 rfl rfl rfl (place_v xs wt.1.1 wt.1.2 _ W10 _ hL h1)) rfl rfl ?_
    rintro _ W15 ⟨rfl, b14⟩
    replace h1 := h1.below b14
    replace hM := hM.below b14
    replace k3 := k3.below b14
    replace hB := below_then hB b14
    replace hL := LL.below hL b14
    refine WL.val (dx_move rfl rfl) rfl rfl ?_
    refine WL.val (dx_extract rfl rfl rfl) rfl rfl ?_
    refine WL.val (dx_extract rfl rfl rfl) rfl rfl ?_
    refine WL.val (dx_assign rfl rfl) rfl rfl ?_
    refine WL.val (dx_assign rfl rfl) rfl rfl ?_
    refine WL.nil ?_
    refine hK13 ?_
    refine WC.seq fun K16 hK16 => ?_
    refine WC.seq fun K17 hK17 => ?_
    refine WC.region ?_
    refine WL.val (dx_move rfl rfl) rfl rfl ?_
    refine WL.val (dx_not rfl rfl) rfl rfl ?_
    refine WL.nil ?_
    refine hK17 ?_
    refine WC.cond rfl (fun c18 => ?_) (fun c18 => ?_)
    ·
      replace c18 := bnot_t c18
      refine WC.seq fun K19 hK19 => ?_
      refine WC.region ?_
      refine WL.val (dx_move rfl rfl) rfl rfl ?_
      refine WL.val (dx_assign rfl rfl) rfl rfl ?_
      refine WL.val (dx_assign rfl rfl) rfl rfl ?_
      refine WL.nil ?_
      refine hK19 ?_
      refine WC.ret fun a_ ha_ => ?_
      exact hQ (cv_ret2 rfl (.tmp rfl) (.tmp rfl) (by have he : unbE xs wt = 7 := (by unfold unbE; rw [if_pos (by assumption), if_neg (by rw [show (placeB xs wt.1.1 wt.1.2).2 = false by assumption]; decide)]); have hr : unbB xs wt = xs := (by unfold unbB; rw [if_neg (by rw [he]; decide)]); rw [he, hr]; exact ⟨_, rfl, (h1.less (fun x hx => (.tail _ hx)))⟩) hB ha_)
    ·
      replace c18 := bnot_f c18
      refine WC.skip ?_
      refine hK16 ?_
      refine WC.seq fun K20 hK20 => ?_
      refine WC.seq fun K21 hK21 => ?_
      obtain ⟨k0, hk0, hkl, hlo, hcs⟩ := placeB_cases xs wt.1.1 wt.1.2
      have hrl := right_len (show rightB xs = true by assumption)
      obtain ⟨b0, hb0, hbm, hbx⟩ : ∃ b, xs[k0]? = some b ∧ b.1.1 = wt.1.1 ∧ b.1.2 = wt.1.2 := (by rcases hcs with ⟨_, h⟩ | ⟨h, _⟩; exact h; exact absurd (show (placeB xs wt.1.1 wt.1.2).2 = true by assumption) (by rw [h]; decide))
      have hl0 := (List.getElem?_eq_some_iff.1 hb0).1
      refine WC.drawM 7 [(some 22, .is (sv)), (some 23, .is (.int .i64 ((placeB xs wt.1.1 wt.1.2).1))), (some 24, .by fun u W => PtR (w.heap.size :: L) W u (encB b0)), (some 25, .by fun u W => PtR (w.heap.size :: L) W u [.string b0.2.1]), (some 26, .is (.string b0.2.1)), (some 27, .is (.pointer (some ⟨w.heap.size, 2, none⟩))), (some 28, .is (.string wt.2.1))] [[], [], [0, 1], [2], [3], [], [5]] (by kernel_rfl) (by kernel_rfl) (by kernel_rfl) (by kernel_rfl) (by kernel_rfl) (by kernel_rfl) (by kernel_rfl) ⟨fun _ _ _ hb h => h.below hb, fun _ _ _ hb h => h.below hb, trivial⟩ ?_ ?_
      ·
        refine DSteps.cons (fun Wd hd => ?_) ?_
        ·
          exact DV.dr (dx_move rfl rfl) ⟨Below.refl _ _, rfl⟩
        refine DSteps.cons (fun Wd hd => ?_) ?_
        ·
          exact DV.dr (dx_move rfl rfl) ⟨Below.refl _ _, rfl⟩
        refine DSteps.cons (fun Wd hd => ?_) ?_
        ·
          have h1 := h1.below hd
          exact (dx_idxF k0 rfl ty_slice_38 rfl rfl h1 (by omega) (at_mapX hb0)).mono (fun v W' h => ⟨by rw [← h.1]; exact Below.refl _ _, by rw [← h.1]; exact h.2⟩)
        refine DSteps.cons (fun Wd hd => ?_) ?_
        ·
          intro u6_2 p6_2
          exact (dx_fldP 1 rfl ty_fld_45_1_2 rfl p6_2 (cs' := [.string b0.2.1]) rfl (Nat.succ_pos _)).mono (fun v W' h => ⟨by rw [← h.1]; exact Below.refl _ _, by rw [← h.1]; exact h.2⟩)
        refine DSteps.cons (fun Wd hd => ?_) ?_
        ·
          intro u6_3 p6_3
          exact DV.dr (dx_loadP rfl ty_one_9 rfl p6_3) ⟨Below.refl _ _, rfl⟩
        refine DSteps.cons (fun Wd hd => ?_) ?_
        ·
          exact DV.dr (dx_fld (o1 := 2) rfl ty_fld_45_1_2 rfl rfl) ⟨Below.refl _ _, rfl⟩
        refine DSteps.cons (fun Wd hd => ?_) ?_
        ·
          have k3 := k3.below hd
          exact DV.dr (dx_load rfl ty_one_9 rfl (k3.cell (k := 2) rfl)) ⟨Below.refl _ _, rfl⟩
        exact trivial
      ·
        intro W22 b23
        intro u6_2 p6_2
        intro u6_3 p6_3
        replace h1 := h1.below b23
        replace hM := hM.below b23
        replace k3 := k3.below b23
        replace hB := below_then hB b23
        replace hL := LL.below hL b23
        refine WL.val (dx_neqT rfl rfl rfl) rfl rfl ?_
        refine WL.nil ?_
        refine hK21 ?_
        refine WC.cond rfl (fun c24 => ?_) (fun c24 => ?_)
        ·
          replace c24 := bnot_t c24
          replace c24 := of_decide_eq_false c24
          refine WC.seq fun K25 hK25 => ?_
          refine WC.region ?_
          refine WL.val (dx_move rfl rfl) rfl rfl ?_
          refine WL.val (dx_assign rfl rfl) rfl rfl ?_
          refine WL.val (dx_assign rfl rfl) rfl rfl ?_
          refine WL.nil ?_
          refine hK25 ?_
          refine WC.ret fun a_ ha_ => ?_
          exact hQ (cv_ret2 rfl (.tmp rfl) (.tmp rfl) (by have he : unbE xs wt = 14 := (by unfold unbE; rw [if_pos (by assumption), if_pos (by assumption), hk0, Int.toNat_natCast, hb0]; exact if_neg (by assumption)); have hr : unbB xs wt = xs := (by unfold unbB; rw [if_neg (by rw [he]; decide)]); rw [he, hr]; exact ⟨_, rfl, (h1.less (fun x hx => (.tail _ hx)))⟩) hB ha_)
        ·
          replace c24 := bnot_f c24
          replace c24 := of_decide_eq_true c24
          refine WC.skip ?_
          refine hK20 ?_
          refine WC.seq fun K26 hK26 => ?_
          refine WC.region ?_
          refine WL.val (dx_move rfl rfl) rfl rfl ?_
          have zh1 := h1
          have zhM := hM
          have zk3 := k3
          have zhB := hB
          have zhL := hL
          refine WL.get (dx_cv rfl Tryd.func41 rfl rfl rfl (cloneSBond_v _ _ W22 _ hL h1 (oc_rowsX oc_B xs) (by rw [List.length_map]; omega))) rfl rfl ?_
          rintro u27 W28 ⟨p29, b30⟩
          replace h1 := h1.below b30
          replace hM := hM.below b30
          replace k3 := k3.below b30
          replace hB := below_then hB b30
          replace hL := LL.below hL b30
          refine WL.val (dx_move rfl rfl) rfl rfl ?_
          refine WL.val (dx_move rfl rfl) rfl rfl ?_
          refine WL.val (dx_add (r := ((placeB xs wt.1.1 wt.1.2).1) + 1) rfl rfl rfl (wrap64_id (by omega))) rfl rfl ?_
          refine WL.get (dx_callA rfl Tryd.func40 rfl rfl rfl (deleteSBond_v _ k0 _ _ _ _ W28 (by omega) (by omega) p29 b30.size (by rw [List.length_map]; exact hl0) (oc_rowsX oc_B xs))) rfl rfl ?_
          rintro x31 W32 ⟨⟨B33, q34, k35⟩, b36⟩
          have b37 := b30.trans b36
          rw [del_rowsB] at k35
          replace h1 := zh1
          replace hM := zhM
          replace k3 := zk3
          replace hB := zhB
          replace hL := zhL
          have n38 : w.heap.size ≠ B33 := Nat.ne_of_lt (Nat.lt_of_lt_of_le k3.lt q34)
          have l39 := Nat.le_trans hB.size q34
          replace h1 := h1.more b37 q34
          replace hM := hM.more b37 q34
          replace k3 := k3.below b37
          replace hB := below_then hB b37
          replace hL := LL.cons (LL.below hL b37) k35.lt
          refine WL.val (dx_assign rfl rfl) rfl rfl ?_
          refine WL.val (dx_assign rfl rfl) rfl rfl ?_
          refine WL.nil ?_
          refine hK26 ?_
          refine WC.ret fun a_ ha_ => ?_
          exact hQ (cv_ret2 rfl (.tmp rfl) (.tmp rfl) (by have he : unbE xs wt = 0 := (by unfold unbE; rw [if_pos (by assumption), if_pos (by assumption), hk0, Int.toNat_natCast, hb0]; exact if_pos (by assumption)); have hr : unbB xs wt = xs.take k0 ++ xs.drop (k0 + 1) := (by unfold unbB; rw [if_pos he, hk0, Int.toNat_natCast]); rw [he, hr]; exact ⟨_, rfl, k35.notin hL0 l39⟩) hB ha_)

end Go.Proofs.YthefddclefimoaaDoor
namespace Go.Proofs.YthefddclefimoaaDoor
open Go.RowKit
set_option linter.unusedVariables false
set_option linter.unusedSimpArgs false
def arr3B (P : Program) (t : TypeId) : Bool := match P.info? t, P.underlying t with
  | some it, some (.array n e) => match it.zero, P.info? e with
    | some z, some ie => ie.size == 1 && z.cells.size == 3 && n == 3 && oneB P e
    | _, _ => false
  | _, _ => false
theorem built3 {P : Program} {t : TypeId} {a b c : Value} (h : arr3B P t = true) (ha : a.oneCell' = true) (hb : b.oneCell' = true) (hc : c.oneCell' = true) : P.built t [(0, a), (1, b), (2, c)] = some [a, b, c].toArray := by
  have ha := Array.ext' (oc_one ha) (ys := #[a])
  have hb := Array.ext' (oc_one hb) (ys := #[b])
  have hc := Array.ext' (oc_one hc) (ys := #[c])
  unfold arr3B at h
  unfold Program.built
  split at h
  · rename_i it n e h1 h2
    rw [h1, h2]
    simp only
    split at h
    · rename_i z ie h3 h4
      rw [h3, h4]
      simp only [Bool.and_eq_true, beq_iff_eq] at h
      obtain ⟨⟨⟨h5, h6⟩, _⟩, _⟩ := h
      simp only [h5]
      obtain ⟨l, hl⟩ : ∃ l, z.cells = l := ⟨_, rfl⟩
      rw [hl] at h6 ⊢
      obtain ⟨l⟩ := l
      match l, h6 with
      | [x, y, u], _ => simp [Instr.fill, ha, hb, hc]
    · cases h
  · cases h
section
variable {P : Program} {ops : Array Oper} {o : Oper} {N : Nat} {f : Fl} {w : World}
theorem dv_F {p : Prop} [Decidable p] (h : DV P ops o N f w (.bool (!decide p))) (hp : p) : DV P ops o N f w (.bool false) := by rw [decide_eq_true hp] at h; exact h
theorem dx_ixA {t : TypeId} {x y : Operand} {a b c v : Value} {K : IntKind} {i : Int} (k : Nat) (ho : o.op = .index t x y) (ht : arr3B P t = true) (hx : ev f x = some (.agg [a, b, c].toArray)) (hy : ev f y = some (.int K i)) (hi : i = (k : Int)) (hv : [a, b, c][k]? = some v) (hw : wantF ops o f = some true := by rfl) : DV P ops o N f w v := fun q hq => by
  subst hi
  have hx := hq.ev hx
  have hy := hq.ev hy
  unfold arr3B at ht
  split at ht
  · rename_i it n e h1 h2
    split at ht
    · rename_i z ie h3 h4
      simp only [Bool.and_eq_true, beq_iff_eq] at ht
      obtain ⟨⟨⟨h5, h6⟩, rfl⟩, h7⟩ := ht
      obtain ⟨d, hu, hd, _⟩ := of_oneB h7
      have hagg : (isAgg e).run P w = .ok false w := by
        unfold isAgg
        rw [Sem.run_bind, run_underlying hu w]
        cases d <;> simp_all
      have hlt : k < 3 := by have := (List.getElem?_eq_some_iff.1 hv).1; simpa using this
      refine Does.pure (wantF_of hq hw) _ ?_ ⟨rfl, rfl⟩
      have g1 : (0 : Int) ≤ (k : Int) := by omega
      have g2 : (k : Int) < 3 := by omega
      unfold execOp
      simp only [ho, hx, hy, Instr.index, asIntOf, Sem.run_bind, Sem.run_pure, Result.andThen_ok, run_underlying h2]
      simp [g1, g2, sizeOf, typeInfo, h4, h5, part, Sem.run_bind, hagg]
      have : ([a, b, c].toArray)[k]? = some v := by simpa using hv
      match k, hlt, hv with
      | 0, _, hv => simp at hv; simp [hv]
      | 1, _, hv => simp at hv; simp [hv]
      | 2, _, hv => simp at hv; simp [hv]
    · cases ht
  · cases ht
end
end Go.Proofs.YthefddclefimoaaDoor
namespace Go.Proofs.YthefddclefimoaaDoor
open Go.RowKit
set_option linter.unusedVariables false
set_option linter.unusedSimpArgs false
set_option maxRecDepth 8000

/-- Nil, or a slice of one's own, new since the base, in none of these blocks. -/
def OwnL (s base : Nat) (L : List Nat) (w : World) (u : Value) (rs : List (List Value)) : Prop := (u = .slice none 0 0 ∧ rs = [] ∧ 0 < s) ∨ ∃ B, base ≤ B ∧ B ∉ L ∧ OwS s w u rs B
theorem OwnL.below {s base : Nat} {L : List Nat} {w w' : World} {u : Value} {rs : List (List Value)} (h : OwnL s base L w u rs) (hb : Below w.heap.size w w') : OwnL s base L w' u rs := by
  rcases h with h | ⟨B, h1, h2, h3⟩
  · exact .inl h
  · exact .inr ⟨B, h1, h2, h3.below hb⟩
theorem OwnL.more {s base : Nat} {L : List Nat} {w w' : World} {u : Value} {rs : List (List Value)} (h : OwnL s base L w u rs) (hb : Below w.heap.size w w') {C : Nat} (hC : w.heap.size ≤ C) : OwnL s base (C :: L) w' u rs := by
  rcases h with h | ⟨B, h1, h2, h3⟩
  · exact .inl h
  · refine .inr ⟨B, h1, fun hx => ?_, h3.below hb⟩
    have := h3.lt
    rcases List.mem_cons.1 hx with e | e
    · omega
    · exact h2 e
theorem OwnL.only {s base : Nat} {L : List Nat} {w w' : World} {u : Value} {rs : List (List Value)} (h : OwnL s base L w u rs) {C : Nat} (ho : Only C w w') (hC : C ∈ L) : OwnL s base L w' u rs := by
  rcases h with h | ⟨B, h1, h2, h3⟩
  · exact .inl h
  · exact .inr ⟨B, h1, h2, h3.other ho (fun e => h2 (e ▸ hC))⟩
theorem OwnL.less {s base : Nat} {L L' : List Nat} {w : World} {u : Value} {rs : List (List Value)} (h : OwnL s base L w u rs) (hl : ∀ x, x ∈ L' → x ∈ L) : OwnL s base L' w u rs := by
  rcases h with h | ⟨B, h1, h2, h3⟩
  · exact .inl h
  · exact .inr ⟨B, h1, fun hx => h2 (hl _ hx), h3⟩
theorem OwnL.new {s base : Nat} {L : List Nat} {w : World} {u : Value} {rs : List (List Value)} (h : OwnL s base L w u rs) : NewW s base rs u w := by
  rcases h with h | ⟨B, h1, h2, h3⟩
  · exact .inl h
  · exact .inr ⟨B, h1, h3⟩
theorem NewW.toL {s : Nat} {L : List Nat} {w0 w : World} {u : Value} {rs : List (List Value)} (h : NewW s w0.heap.size rs u w) (hL : LL L w0) : OwnL s w0.heap.size L w u rs := by
  rcases h with h | ⟨B, h1, h2⟩
  · exact .inl h
  · exact .inr ⟨B, h1, hL.notin h1, h2⟩
theorem OwnL.rd {s base : Nat} {L : List Nat} {w : World} {u : Value} {rs : List (List Value)} (h : OwnL s base L w u rs) : RdF s L w u rs := by
  rcases h with ⟨rfl, rfl, h0⟩ | ⟨B, h1, h2, h3⟩
  · exact RdF.nil h0
  · exact h3.rd h2
theorem filt_len {α : Type} (p : α → Bool) (xs : List α) (i : Nat) : ((xs.take i).filter p).length ≤ i := Nat.le_trans (List.length_filter_le _ _) (by rw [List.length_take]; omega)
set_option maxHeartbeats 1000000 in
theorem of_v (xs : List BondX) (mx : ByteArray) (sv : Value) (w : World) (L : List Nat) (hL : LL L w) (h1 : RdF 4 L w sv (xs.map encB)) (hM : MaxL L w)  (hsz : smallB xs) : CV Tryd.prog 20 [sv, .string mx] w fun v W => RdF 2 L W v ((ofB xs mx).map encAd) := by
  refine cv_enter (N := 28) (f := [(0, sv), (1, .string mx)]) Tryd.func20 rfl rfl rfl rfl fun Q hQ hE => ?_
  have hB := Below.refl w.heap.size w
  have hL0 := hL
  have h10 := h1
  have hM0 := hM
  have h1m : xs.length ≤ maxLen := by have := h1.len; rwa [List.length_map] at this
  unfold maxLen at h1m
  refine WC.seq fun K1 hK1 => ?_
  refine WC.region ?_
  refine WL.val (dx_assign rfl rfl) rfl rfl ?_
  refine WL.nil ?_
  refine hK1 ?_
  refine WC.seq fun K2 hK2 => ?_
  refine WC.seq fun K3 hK3 => ?_
  refine WC.region ?_
  refine WL.val (dx_move rfl rfl) rfl rfl ?_
  refine WL.get (dx_cv rfl Tryd.func18 rfl rfl rfl (rightB_v xs _ w _ hL h1 hM hsz)) rfl rfl ?_
  rintro _ W5 ⟨rfl, b4⟩
  replace h1 := h1.below b4
  replace hM := hM.below b4
  replace hB := below_then hB b4
  replace hL := LL.below hL b4
  refine WL.val (dx_not rfl rfl) rfl rfl ?_
  refine WL.nil ?_
  refine hK3 ?_
  refine WC.cond rfl (fun c6 => ?_) (fun c6 => ?_)
  ·
    replace c6 := bnot_t c6
    refine WC.seq fun K7 hK7 => ?_
    refine WC.region ?_
    refine WL.val (dx_assign rfl rfl) rfl rfl ?_
    refine WL.nil ?_
    refine hK7 ?_
    refine WC.ret fun a_ ha_ => ?_
    exact hQ (cv_ret1 rfl (.tmp rfl) (by have hr : ofB xs mx = [] := (by unfold ofB; rw [if_neg (by intro h; simp_all)]); rw [hr]; exact RdF.nil (by decide)) hB ha_)
  ·
    replace c6 := bnot_f c6
    refine WC.skip ?_
    refine hK2 ?_
    refine WC.seq fun K8 hK8 => ?_
    refine WC.region ?_
    refine WL.val (dx_assign rfl rfl) rfl rfl ?_
    refine WL.nil ?_
    refine hK8 ?_
    refine WC.seq fun K9 hK9 => ?_
    refine WC.seq fun K10 hK10 => ?_
    have hrl := right_len (show rightB xs = true by assumption)
    have hu : OwnL 2 w.heap.size (L) W5 (.slice none 0 0) ((((xs.take 0).filter fun b => decide (b.2.1 = mx)).map (·.1)).map encAd) := .inl ⟨rfl, rfl, by decide⟩
    refine WC.region ?_
    refine WL.val (dx_move rfl rfl) rfl rfl ?_
    refine WL.val (dx_lenX rfl ty_slice_38 rfl h1) rfl rfl ?_
    refine WL.val (dx_move rfl rfl) rfl rfl ?_
    refine WL.nil ?_
    refine hK10 ?_
    refine WC.block ?_
    refine WC.loop2 (fun (i : Nat) (cu : Value) => [(0, sv), (1, .string mx), (11, sv), (12, .int .i64 (xs.length : Int)), (13, .int .i64 (i : Int)), (5, cu)]) (fun (i : Nat) (cu : Value) W => i ≤ xs.length ∧ Below w.heap.size w W ∧ LL (L) W ∧ RdF 4 (L) W sv (xs.map encB) ∧ MaxL (L) W ∧ OwnL 2 w.heap.size (L) W cu ((((xs.take i).filter fun b => decide (b.2.1 = mx)).map (·.1)).map encAd)) (fun (i : Nat) (cu : Value) => xs.length - i) 0 (.slice none 0 0) (by repeat first | exact trivial | exact And.intro rfl trivial | refine And.intro rfl ?_ | refine And.intro (congrArg (fun z : Int => some (Value.int .i64 z)) (by omega)) ?_) ⟨Nat.zero_le _, hB, hL, h1, hM, hu⟩ ?_
    clear h1 hM hu hB hL
    rintro K11 i cu W12 ⟨hi, hB, hL, h1, hM, hu⟩ hK11
    refine WC.seq fun K13 hK13 => ?_
    refine WC.region ?_
    refine WL.val (dx_lss rfl rfl rfl) rfl rfl ?_
    refine WL.nil ?_
    refine hK13 ?_
    refine WC.seq fun K14 hK14 => ?_
    refine WC.cond rfl (fun c15 => ?_) (fun c15 => ?_)
    ·
      replace c15 := of_decide_eq_true c15
      refine WC.skip ?_
      refine hK14 ?_
      refine WC.seq fun K16 hK16 => ?_
      refine WC.block ?_
      refine WC.seq fun K17 hK17 => ?_
      refine WC.region ?_
      obtain ⟨r18, e19⟩ : ∃ x, xs[i]? = some x := ⟨_, List.getElem?_eq_getElem (by omega)⟩
      refine WL.get (dx_idxF i rfl ty_slice_38 rfl rfl h1 (by omega) (at_mapX e19)) rfl rfl ?_
      rintro u20 _ ⟨rfl, p21⟩
      refine WL.val (dx_loadPN rfl ty_agg_45_4 rfl p21 rfl) rfl rfl ?_
      refine WL.get (dx_alloc rfl ty_zero_45 rfl) rfl rfl ?_
      rintro _ W22 ⟨rfl, k23, b24, z25⟩
      have l26 := hB.size
      replace h1 := h1.more b24 (Nat.le_refl _)
      replace hM := hM.more b24 (Nat.le_refl _)
      replace hu := hu.more b24 (Nat.le_refl _)
      replace p21 := p21.more b24 (Nat.le_refl _)
      replace hB := below_then hB b24
      replace hL := LL.more hL z25
      refine WL.do (dx_store (cs' := [.string r18.1.1, .string r18.1.2, .string r18.2.1, .int .i64 r18.2.2]) (vs := [.string r18.1.1, .string r18.1.2, .string r18.2.1, .int .i64 r18.2.2]) rfl ty_size_45_4 rfl rfl rfl (oc_cons rfl (oc_cons rfl (oc_cons rfl (oc_cons rfl oc_nil)))) k23 rfl (Nat.le_of_ble_eq_true rfl) rfl) rfl ?_
      rintro _ W27 ⟨k29, o28⟩
      clear k23
      replace h1 := h1.only o28 (.head _)
      replace hM := hM.only o28 (.head _)
      replace hu := hu.only o28 (.head _)
      replace p21 := p21.only o28 (.head _)
      replace hB := o28.below hB l26
      replace hL := LL.only hL o28
      refine WL.nil ?_
      refine hK17 ?_
      refine WC.seq fun K30 hK30 => ?_
      refine WC.region ?_
      refine WL.val (dx_fld (o1 := 2) rfl ty_fld_45_1_2 rfl rfl) rfl rfl ?_
      refine WL.val (dx_load rfl ty_one_9 rfl (k29.cell (k := 2) rfl)) rfl rfl ?_
      refine WL.val (dx_move rfl rfl) rfl rfl ?_
      refine WL.val (dx_eqlT rfl rfl rfl) rfl rfl ?_
      refine WL.nil ?_
      refine hK30 ?_
      refine WC.cond rfl (fun c31 => ?_) (fun c31 => ?_)
      ·
        replace c31 := of_decide_eq_true c31
        refine WC.region ?_
        refine WL.val (dx_move rfl rfl) rfl rfl ?_
        refine WL.val (dx_fld (o1 := 0) rfl ty_fld_45_0_0 rfl rfl) rfl rfl ?_
        refine WL.val (dx_loadN (cs := [.string r18.1.1, .string r18.1.2]) rfl ty_agg_43_2 rfl (k29.part 0 2) rfl) rfl rfl ?_
        refine WL.get (dx_lit1 (r := encAd r18.1) rfl ty_ap_52 (by decide) (by decide) rfl rfl rfl) rfl rfl ?_
        rintro u32 W33 ⟨k34, b35, z36⟩
        replace h1 := h1.below b35
        replace hM := hM.below b35
        replace hu := hu.below b35
        replace k29 := k29.below b35
        replace hB := below_then hB b35
        replace hL := LL.below hL b35
        have q1 := filt_len (fun b => decide (b.2.1 = mx)) xs i
        refine WL.get (dx_apW rfl ty_ap_52 rfl rfl hu.new (k34.rd (L := []) (by simp)) (fun r hr => by rw [List.mem_singleton.1 hr]; exact oc_Ad _) (by rw [List.length_map, List.length_map]; unfold maxLen; simp; omega) (by rw [List.length_map, List.length_map]; simp; omega) hB.size) rfl rfl ?_
        rintro u38 W39 ⟨k40, b41⟩
        replace hB := hB.trans b41
        replace h1 := h10.below hB
        replace hM := hM0.below hB
        replace hL := LL.below hL0 hB
        replace k40 := k40.toL hL0
        refine WL.val (dx_assign rfl rfl) rfl rfl ?_
        refine WL.nil ?_
        refine hK16 ?_
        refine WC.region ?_
        refine WL.val (dx_add (r := (i : Int) + 1) rfl rfl rfl (wrap64_id (by omega))) rfl rfl ?_
        refine WL.val (dx_move rfl rfl) rfl rfl ?_
        refine WL.nil ?_
        replace k40 : OwnL 2 w.heap.size (L) W39 u38 ((((xs.take (i + 1)).filter fun b => decide (b.2.1 = mx)).map (·.1)).map encAd) := (by rw [of_step mx e19, if_pos (by assumption), List.map_append]; exact k40)
        exact hK11 (i + 1) u38 ⟨(by omega), hB, hL, h1, hM, k40⟩ (by omega) (by repeat first | exact trivial | exact And.intro rfl trivial | refine And.intro rfl ?_ | refine And.intro (congrArg (fun z : Int => some (Value.int .i64 z)) (by omega)) ?_)
      ·
        replace c31 := of_decide_eq_false c31
        refine WC.skip ?_
        refine hK16 ?_
        refine WC.region ?_
        refine WL.val (dx_add (r := (i : Int) + 1) rfl rfl rfl (wrap64_id (by omega))) rfl rfl ?_
        refine WL.val (dx_move rfl rfl) rfl rfl ?_
        refine WL.nil ?_
        replace hu : OwnL 2 w.heap.size (W12.heap.size :: L) W27 cu ((((xs.take (i + 1)).filter fun b => decide (b.2.1 = mx)).map (·.1)).map encAd) := (by rw [of_step mx e19, if_neg (by assumption), List.append_nil]; exact hu)
        replace hL := hL.less (fun x hx => (.tail _ hx))
        replace h1 := h1.less (fun x hx => (.tail _ hx))
        replace hM := hM.less (fun x hx => (.tail _ hx))
        replace hu := hu.less (fun x hx => (.tail _ hx))
        exact hK11 (i + 1) cu ⟨(by omega), hB, hL, h1, hM, hu⟩ (by omega) (by repeat first | exact trivial | exact And.intro rfl trivial | refine And.intro rfl ?_ | refine And.intro (congrArg (fun z : Int => some (Value.int .i64 z)) (by omega)) ?_)
    ·
      replace c15 := of_decide_eq_false c15
      refine WC.exit ?_
      refine hK9 ?_
      refine WC.seq fun K42 hK42 => ?_
      refine WC.region ?_
      refine WL.val (dx_move rfl rfl) rfl rfl ?_
      refine WL.val (dx_assign rfl rfl) rfl rfl ?_
      refine WL.nil ?_
      refine hK42 ?_
      refine WC.ret fun a_ ha_ => ?_
      exact hQ (cv_ret1 rfl (.tmp rfl) (by have hr : ofB xs mx = (((xs.take i).filter fun b => decide (b.2.1 = mx)).map (·.1)) := (by unfold ofB; rw [if_pos (by assumption), show xs.take i = xs from List.take_of_length_le (by omega)]); rw [hr]; exact hu.rd) hB ha_)

end Go.Proofs.YthefddclefimoaaDoor
namespace Go.Proofs.YthefddclefimoaaDoor
open Go.RowKit
set_option linter.unusedVariables false
set_option linter.unusedSimpArgs false
set_option maxRecDepth 8000

theorem bld_bond (a b c : ByteArray) (n : Int) : Tryd.prog.built 45 [(0, .agg #[.string a, .string b]), (1, .string c), (2, .int .i64 n)] = some [.string a, .string b, .string c, .int .i64 n].toArray := by kernel_rfl
theorem bld_bond2 (a b c : ByteArray) : Tryd.prog.built 45 [(0, .agg #[.string a, .string b]), (1, .string c)] = some [.string a, .string b, .string c, .int .i64 0].toArray := by kernel_rfl
theorem place_some {xs : List BondX} {j : Nat} {c : BondX} (hr : rightB xs = true) (h : xs[j]? = some c) : placeB xs c.1.1 c.1.2 = ((j : Int), true) := by
  obtain ⟨hj, rfl⟩ := List.getElem?_eq_some_iff.1 h
  have hp := ((rightB_iff xs).1 hr).2.2
  have hirr := lessA_irrefl (xs[j].1.1, xs[j].1.2)
  obtain ⟨k, h1, h2, h3, h4⟩ := placeB_cases xs xs[j].1.1 xs[j].1.2
  have hjk : ¬ j < k := fun hl => by
    have := h3 xs[j] (by rw [List.mem_iff_getElem]; exact ⟨j, by rw [List.length_take]; omega, by rw [List.getElem_take]⟩)
    rw [hirr] at this; cases this
  have hkj : ¬ k < j := fun hl => by
    have hl2 := List.pairwise_iff_getElem.1 hp k j (by omega) hj hl
    rcases h4 with ⟨_, b, hb, e1, e2⟩ | ⟨_, h4⟩
    · rw [List.getElem?_eq_getElem (by omega)] at hb
      cases hb
      have : lessA (xs[k].1.1, xs[k].1.2) (xs[j].1.1, xs[j].1.2) = true := hl2
      rw [e1, e2, hirr] at this; cases this
    · have := lessA_trans _ _ _ (h4 xs[k] (List.getElem?_eq_getElem (by omega))) hl2
      rw [hirr] at this; cases this
  obtain rfl : k = j := by omega
  refine Prod.ext h1 ?_
  rcases h4 with ⟨h4, _⟩ | ⟨_, h4⟩
  · exact h4
  · have := h4 xs[k] (List.getElem?_eq_getElem hj)
    rw [hirr] at this; cases this
theorem find_some {xs : List BondX} {j : Nat} {c : BondX} (hr : rightB xs = true) (h : xs[j]? = some c) : findB xs c.1.1 c.1.2 = (c, true) := by
  unfold findB
  rw [place_some hr h, if_pos ⟨hr, rfl⟩]
  simp [h]
theorem own_find {xs : List BondX} {mx : ByteArray} (hr : rightB xs = true) {i : Nat} {a : ByteArray × ByteArray} (h : (ofB xs mx)[i]? = some a) : ∃ c : BondX, c.2.1 = mx ∧ findB xs a.1 a.2 = (c, true) := by
  unfold ofB at h
  rw [if_pos hr] at h
  obtain ⟨c, hc, rfl⟩ := List.mem_map.1 (List.mem_of_getElem? h)
  obtain ⟨hc1, hc2⟩ := List.mem_filter.1 hc
  obtain ⟨j, hj⟩ := List.getElem?_of_mem hc1
  exact ⟨c, by simpa using hc2, find_some hr hj⟩
abbrev eM : ByteArray := { data := #[101, 109, 97, 105, 108] }
abbrev aB : ByteArray := { data := #[97, 64, 98, 46, 99] }
abbrev aH : ByteArray := { data := #[64, 97, 58, 104] }
abbrev bH : ByteArray := { data := #[64, 98, 58, 104] }
abbrev b1 : BondX := ((eM, aB), aH, 0)
abbrev b2 : BondX := ((eM, aB), bH, 5)
theorem al_g : goodB b1 = true ∧ goodB b2 = true := by decide +kernel
theorem right_one {b : BondX} (h : goodB b = true) : rightB [b] = true := (rightB_iff _).2 ⟨by simp, by simpa using h, by simp⟩
theorem al_e1 : bindE [] b1 = 0 := by
  unfold bindE
  rw [if_pos ⟨rfl, al_g.1⟩]
  rfl
theorem al_b1 : bindB [] b1 = [b1] := by
  unfold bindB
  rw [if_pos al_e1]
  rfl
theorem al_p1 : atB [b1] b2 = (0, true) := place_some (xs := [b1]) (j := 0) (c := b1) (right_one al_g.1) rfl
theorem al_p2 : atB [b2] b1 = (0, true) := place_some (xs := [b2]) (j := 0) (c := b2) (right_one al_g.2) rfl
theorem al_e2 : bindE [b1] b2 = 0 := by
  unfold bindE
  rw [if_pos ⟨right_one al_g.1, al_g.2⟩, al_p1]
  rfl
theorem al_b2 : bindB [b1] b2 = [b2] := by
  unfold bindB
  rw [if_pos al_e2, al_p1]
  rfl
theorem al_u : unbE [b2] b1 = 14 := by
  unfold unbE
  rw [if_pos (right_one al_g.2), al_p2]
  show (if bH = aH then (0 : Int) else 14) = 14
  rw [if_neg (by decide)]
theorem al_f2 : findB [b2] eM aB = (b2, true) := find_some (xs := [b2]) (j := 0) (c := b2) (right_one al_g.2) rfl
theorem of_len (xs : List BondX) (mx : ByteArray) : (ofB xs mx).length ≤ xs.length := by
  unfold ofB
  split
  · rw [List.length_map]; exact List.length_filter_le _ _
  · simp
theorem al_o : ofB [b2] bH = [(eM, aB)] := by
  unfold ofB
  rw [if_pos (right_one al_g.2)]
  rfl
theorem sm_nil : smallB [] := fun b hb => by cases hb
theorem sm_b1 : smallB [b1] := fun b hb => by rw [List.mem_singleton.1 hb]; decide
theorem sm_b2 : smallB [b2] := fun b hb => by rw [List.mem_singleton.1 hb]; decide
set_option maxHeartbeats 1000000 in
theorem one_v  (w : World) (L : List Nat) (hL : LL L w)  : CV Tryd.prog 38 [] w fun v W => v = .agg #[.string { data := #[101, 109, 97, 105, 108] }, .string { data := #[97, 64, 98, 46, 99] }] := by
  refine cv_enter (N := 2) (f := []) Tryd.func38 rfl rfl rfl rfl fun Q hQ hE => ?_
  have hB := Below.refl w.heap.size w
  refine WC.seq fun K1 hK1 => ?_
  refine WC.region ?_
  refine WL.get (dx_alloc rfl ty_zero_43 rfl) rfl rfl ?_
  rintro _ W2 ⟨rfl, k3, b4, z5⟩
  have l6 := hB.size
  replace hB := below_then hB b4
  replace hL := LL.more hL z5
  refine WL.nil ?_
  refine hK1 ?_
  refine WC.seq fun K7 hK7 => ?_
  refine WC.region ?_
  refine WL.val (dx_build rfl rfl (built_of_O (cs := [.string ({ data := #[101, 109, 97, 105, 108] }), .string ({ data := #[97, 64, 98, 46, 99] })]) (by kernel_rfl) (oc_cons rfl (oc_cons rfl oc_nil)))) rfl rfl ?_
  refine WL.do (dx_store (cs' := [.string ({ data := #[101, 109, 97, 105, 108] }), .string ({ data := #[97, 64, 98, 46, 99] })]) (vs := [.string ({ data := #[101, 109, 97, 105, 108] }), .string ({ data := #[97, 64, 98, 46, 99] })]) rfl ty_size_43_2 rfl rfl rfl (oc_cons rfl (oc_cons rfl oc_nil)) k3 rfl (Nat.le_of_ble_eq_true rfl) rfl) rfl ?_
  rintro _ W8 ⟨k10, o9⟩
  clear k3
  replace hB := o9.below hB l6
  replace hL := LL.only hL o9
  refine WL.nil ?_
  refine hK7 ?_
  refine WC.ret fun a_ ha_ => ?_
  exact hQ (cv_ret1 rfl (.agg rfl ty_agg_43_2 k10.range rfl) rfl hB ha_)

set_option maxHeartbeats 1000000 in
theorem great18_v (xs : List BondX) (sv : Value) (w : World) (L : List Nat) (hL : LL L w) (h1 : RdF 4 L w sv (xs.map encB)) : CV Tryd.prog 19 [sv] w fun v W => v = .bool (decide (100 < (xs.length : Int))) := by
  refine cv_enter (N := 6) (f := [(0, sv)]) Tryd.func19 rfl rfl rfl rfl fun Q hQ hE => ?_
  have hB := Below.refl w.heap.size w
  have h1m : xs.length ≤ maxLen := by have := h1.len; rwa [List.length_map] at this
  unfold maxLen at h1m
  refine WC.seq fun K1 hK1 => ?_
  refine WC.region ?_
  refine WL.val (dx_assign rfl rfl) rfl rfl ?_
  refine WL.nil ?_
  refine hK1 ?_
  refine WC.seq fun K2 hK2 => ?_
  refine WC.region ?_
  refine WL.val (dx_move rfl rfl) rfl rfl ?_
  refine WL.val (dx_lenX rfl ty_slice_38 rfl h1) rfl rfl ?_
  refine WL.val (dx_gtr rfl rfl rfl) rfl rfl ?_
  refine WL.val (dx_assign rfl rfl) rfl rfl ?_
  refine WL.nil ?_
  refine hK2 ?_
  refine WC.ret fun a_ ha_ => ?_
  exact hQ (cv_ret1 rfl (.tmp rfl) rfl hB ha_)

set_option maxHeartbeats 1000000 in
theorem alive18_v  (w : World) (L : List Nat) (hL : LL L w) (hM : MaxL L w) : CV Tryd.prog 14 [] w fun v W => v = .bool true := by
  refine cv_enter (N := 58) (f := []) Tryd.func14 rfl rfl rfl rfl fun Q hQ hE => ?_
  have hB := Below.refl w.heap.size w
  refine WC.seq fun K1 hK1 => ?_
  refine WC.region ?_
  refine WL.val (dx_assign rfl rfl) rfl rfl ?_
  refine WL.nil ?_
  refine hK1 ?_
  refine WC.seq fun K2 hK2 => ?_
  refine WC.region ?_
  refine WL.get (dx_cv rfl Tryd.func38 rfl rfl rfl (one_v w [] (LL.nil _))) rfl rfl ?_
  rintro _ W4 ⟨rfl, b3⟩
  replace hM := hM.below b3
  replace hB := below_then hB b3
  replace hL := LL.below hL b3
  refine WL.val (dx_build rfl rfl (bld_bond2 _ _ _)) rfl rfl ?_
  refine WL.get (dx_cv rfl Tryd.func16 rfl rfl rfl ((show CV _ _ [_, _] _ (fun v W => ∃ s2, v = .tuple #[s2, .int .i64 0] ∧ RdF 4 (L) W s2 ([b1].map encB)) from by have := bind_v [] b1 (.slice none 0 0) W4 (L) hL (RdF.nil (by decide)) hM sm_nil (by decide); rw [al_e1, al_b1] at this; exact this))) rfl rfl ?_
  rintro _ W8 ⟨⟨u5, rfl, j6⟩, b7⟩
  replace hM := hM.below b7
  replace hB := below_then hB b7
  replace hL := LL.below hL b7
  refine WL.val (dx_move rfl rfl) rfl rfl ?_
  refine WL.val (dx_extract rfl rfl rfl) rfl rfl ?_
  refine WL.val (dx_extract rfl rfl rfl) rfl rfl ?_
  refine WL.val (dx_assign rfl rfl) rfl rfl ?_
  refine WL.val (dx_assign rfl rfl) rfl rfl ?_
  refine WL.nil ?_
  refine hK2 ?_
  refine WC.seq fun K9 hK9 => ?_
  refine WC.region ?_
  refine WL.val (dx_move rfl rfl) rfl rfl ?_
  refine WL.get (dx_cv rfl Tryd.func38 rfl rfl rfl (one_v W8 [] (LL.nil _))) rfl rfl ?_
  rintro _ W11 ⟨rfl, b10⟩
  replace hM := hM.below b10
  replace j6 := j6.below b10
  replace hB := below_then hB b10
  replace hL := LL.below hL b10
  refine WL.val (dx_build rfl rfl (bld_bond _ _ _ _)) rfl rfl ?_
  refine WL.get (dx_cv rfl Tryd.func16 rfl rfl rfl ((show CV _ _ [_, _] _ (fun v W => ∃ s2, v = .tuple #[s2, .int .i64 0] ∧ RdF 4 (L) W s2 ([b2].map encB)) from by have := bind_v [b1] b2 _ W11 (L) hL j6 hM sm_b1 (by decide); rw [al_e2, al_b2] at this; exact this))) rfl rfl ?_
  rintro _ W15 ⟨⟨u12, rfl, j13⟩, b14⟩
  replace hM := hM.below b14
  replace j6 := j6.below b14
  replace hB := below_then hB b14
  replace hL := LL.below hL b14
  refine WL.val (dx_move rfl rfl) rfl rfl ?_
  refine WL.val (dx_extract rfl rfl rfl) rfl rfl ?_
  refine WL.val (dx_extract rfl rfl rfl) rfl rfl ?_
  refine WL.val (dx_assign rfl rfl) rfl rfl ?_
  refine WL.val (dx_assign rfl rfl) rfl rfl ?_
  refine WL.nil ?_
  refine hK9 ?_
  refine WC.seq fun K16 hK16 => ?_
  refine WC.region ?_
  refine WL.val (dx_move rfl rfl) rfl rfl ?_
  refine WL.get (dx_cv rfl Tryd.func38 rfl rfl rfl (one_v W15 [] (LL.nil _))) rfl rfl ?_
  rintro _ W18 ⟨rfl, b17⟩
  replace hM := hM.below b17
  replace j6 := j6.below b17
  replace j13 := j13.below b17
  replace hB := below_then hB b17
  replace hL := LL.below hL b17
  refine WL.val (dx_build rfl rfl (bld_bond2 _ _ _)) rfl rfl ?_
  refine WL.get (dx_cv rfl Tryd.func15 rfl rfl rfl ((show CV _ _ [_, _] _ (fun v W => ∃ s2, v = .tuple #[s2, .int .i64 14] ∧ RdF 4 (L) W s2 ((unbB [b2] b1).map encB)) from by have := unbind_v [b2] b1 _ W18 (L) hL j13 hM sm_b2; rw [al_u] at this; exact this))) rfl rfl ?_
  rintro _ W22 ⟨⟨u19, rfl, j20⟩, b21⟩
  replace hM := hM.below b21
  replace j6 := j6.below b21
  replace j13 := j13.below b21
  replace hB := below_then hB b21
  replace hL := LL.below hL b21
  refine WL.val (dx_move rfl rfl) rfl rfl ?_
  refine WL.val (dx_extract rfl rfl rfl) rfl rfl ?_
  refine WL.val (dx_extract rfl rfl rfl) rfl rfl ?_
  refine WL.val (dx_assign rfl rfl) rfl rfl ?_
  refine WL.val (dx_assign rfl rfl) rfl rfl ?_
  refine WL.nil ?_
  refine hK16 ?_
  refine WC.seq fun K23 hK23 => ?_
  refine WC.region ?_
  refine WL.val (dx_move rfl rfl) rfl rfl ?_
  refine WL.get (dx_cv rfl Tryd.func38 rfl rfl rfl (one_v W22 [] (LL.nil _))) rfl rfl ?_
  rintro _ W25 ⟨rfl, b24⟩
  replace hM := hM.below b24
  replace j6 := j6.below b24
  replace j13 := j13.below b24
  replace j20 := j20.below b24
  replace hB := below_then hB b24
  replace hL := LL.below hL b24
  refine WL.get (dx_cv rfl Tryd.func17 rfl rfl rfl ((show CV _ _ [_, _] _ (fun v W => v = .tuple #[.agg (encB b2).toArray, .bool true]) from by have := find_v [b2] eM aB _ W25 (L) hL j13 hM sm_b2; rw [al_f2] at this; exact this))) rfl rfl ?_
  rintro _ W27 ⟨rfl, b26⟩
  replace hM := hM.below b26
  replace j6 := j6.below b26
  replace j13 := j13.below b26
  replace j20 := j20.below b26
  replace hB := below_then hB b26
  replace hL := LL.below hL b26
  refine WL.val (dx_move rfl rfl) rfl rfl ?_
  refine WL.val (dx_extract rfl rfl rfl) rfl rfl ?_
  refine WL.val (dx_extract rfl rfl rfl) rfl rfl ?_
  refine WL.get (dx_alloc rfl ty_zero_45 rfl) rfl rfl ?_
  rintro _ W28 ⟨rfl, k29, b30, z31⟩
  have l32 := hB.size
  replace hM := hM.more b30 (Nat.le_refl _)
  replace j6 := j6.more b30 (Nat.le_refl _)
  replace j13 := j13.more b30 (Nat.le_refl _)
  replace j20 := j20.more b30 (Nat.le_refl _)
  replace hB := below_then hB b30
  replace hL := LL.more hL z31
  refine WL.do (dx_store (cs' := [.string ({ data := #[101, 109, 97, 105, 108] }), .string ({ data := #[97, 64, 98, 46, 99] }), .string ({ data := #[64, 98, 58, 104] }), .int .i64 5]) (vs := [.string ({ data := #[101, 109, 97, 105, 108] }), .string ({ data := #[97, 64, 98, 46, 99] }), .string ({ data := #[64, 98, 58, 104] }), .int .i64 5]) rfl ty_size_45_4 rfl rfl rfl (oc_cons rfl (oc_cons rfl (oc_cons rfl (oc_cons rfl oc_nil)))) k29 rfl (Nat.le_of_ble_eq_true rfl) rfl) rfl ?_
  rintro _ W33 ⟨k35, o34⟩
  clear k29
  replace hM := hM.only o34 (.head _)
  replace j6 := j6.only o34 (.head _)
  replace j13 := j13.only o34 (.head _)
  replace j20 := j20.only o34 (.head _)
  replace hB := o34.below hB l32
  replace hL := LL.only hL o34
  refine WL.val (dx_assign rfl rfl) rfl rfl ?_
  refine WL.nil ?_
  refine hK23 ?_
  refine WC.seq fun K36 hK36 => ?_
  refine WC.region ?_
  refine WL.val (dx_move rfl rfl) rfl rfl ?_
  refine WL.val (dx_eql rfl rfl rfl) rfl rfl ?_
  refine WL.val (dx_move rfl rfl) rfl rfl ?_
  refine WL.val (dx_move rfl rfl) rfl rfl ?_
  refine WL.val (dx_eql rfl rfl rfl) rfl rfl ?_
  refine WL.val (dx_pick rfl rfl rfl) rfl rfl ?_
  refine WL.val (dx_move rfl rfl) rfl rfl ?_
  refine WL.val (dx_move rfl rfl) rfl rfl ?_
  refine WL.val (dx_eql rfl rfl rfl) rfl rfl ?_
  refine WL.val (dx_pick rfl rfl rfl) rfl rfl ?_
  refine WL.val (dx_move rfl rfl) rfl rfl ?_
  refine WL.val (dx_move rfl rfl) rfl rfl ?_
  refine WL.val (dx_pick rfl rfl rfl) rfl rfl ?_
  refine WL.val (dx_move rfl rfl) rfl rfl ?_
  refine WL.val (dx_fld (o1 := 2) rfl ty_fld_45_1_2 rfl rfl) rfl rfl ?_
  refine WL.val (dx_load rfl ty_one_9 rfl (k35.cell (k := 2) rfl)) rfl rfl ?_
  refine WL.val (dx_eqlT rfl rfl rfl) rfl rfl ?_
  refine WL.val (dx_pick rfl rfl rfl) rfl rfl ?_
  refine WL.val (dx_move rfl rfl) rfl rfl ?_
  refine WL.split 52 rfl (fun g37 => ?_) (fun g37 => ?_)
  ·
    replace g37 := of_decide_eq_true g37
    refine WL.val (dx_move rfl rfl) rfl rfl ?_
    refine WL.get (dx_cv rfl Tryd.func20 rfl rfl rfl ((show CV _ _ [_, _] _ (fun v W => RdF 2 (W27.heap.size :: L) W v ([(eM, aB)].map encAd)) from by have := of_v [b2] bH _ W33 (W27.heap.size :: L) hL j13 hM sm_b2; rw [al_o] at this; exact this))) rfl rfl ?_
    rintro u38 W41 ⟨j39, b40⟩
    replace hM := hM.below b40
    replace j6 := j6.below b40
    replace j13 := j13.below b40
    replace j20 := j20.below b40
    replace k35 := k35.below b40
    replace hB := below_then hB b40
    replace hL := LL.below hL b40
    refine WL.val (dx_lenX rfl ty_slice_52 rfl j39) rfl rfl ?_
    refine WL.val (dx_eql rfl rfl rfl) rfl rfl ?_
    refine WL.val (dx_pick rfl rfl rfl) rfl rfl ?_
    refine WL.val (dx_assign rfl rfl) rfl rfl ?_
    refine WL.nil ?_
    refine hK36 ?_
    refine WC.ret fun a_ ha_ => ?_
    exact hQ (cv_ret1 rfl (.tmp rfl) rfl hB ha_)
  ·
    exact absurd rfl (of_decide_eq_false g37)

set_option maxHeartbeats 1000000 in
theorem bondCounts_v (xs : List BondX) (mx : ByteArray) (sv : Value) (w : World) (L : List Nat) (hL : LL L w) (h1 : RdF 4 L w sv (xs.map encB)) (hM : MaxL L w)  (hsz : smallB xs) : CV Tryd.prog 6 [sv, .string mx] w fun v W => v = .bool true := by
  refine cv_enter (N := 65) (f := [(0, sv), (1, .string mx)]) Tryd.func6 rfl rfl rfl rfl fun Q hQ hE => ?_
  have hB := Below.refl w.heap.size w
  have h1m : xs.length ≤ maxLen := by have := h1.len; rwa [List.length_map] at this
  unfold maxLen at h1m
  refine WC.seq fun K1 hK1 => ?_
  refine WC.region ?_
  refine WL.val (dx_assign rfl rfl) rfl rfl ?_
  refine WL.nil ?_
  refine hK1 ?_
  refine WC.seq fun K2 hK2 => ?_
  refine WC.seq fun K3 hK3 => ?_
  refine WC.region ?_
  refine WL.get (dx_cv rfl Tryd.func14 rfl rfl rfl (alive18_v w _ hL hM)) rfl rfl ?_
  rintro _ W5 ⟨rfl, b4⟩
  replace h1 := h1.below b4
  replace hM := hM.below b4
  replace hB := below_then hB b4
  replace hL := LL.below hL b4
  refine WL.val (dx_not rfl rfl) rfl rfl ?_
  refine WL.nil ?_
  refine hK3 ?_
  refine WC.condF rfl ?_
  refine WC.skip ?_
  refine hK2 ?_
  refine WC.seq fun K6 hK6 => ?_
  refine WC.seq fun K7 hK7 => ?_
  refine WC.region ?_
  refine WL.val (dx_move rfl rfl) rfl rfl ?_
  refine WL.get (dx_cv rfl Tryd.func19 rfl rfl rfl (great18_v xs _ W5 _ hL h1)) rfl rfl ?_
  rintro _ W9 ⟨rfl, b8⟩
  replace h1 := h1.below b8
  replace hM := hM.below b8
  replace hB := below_then hB b8
  replace hL := LL.below hL b8
  refine WL.val (dx_move rfl rfl) rfl rfl ?_
  refine WL.split 15 rfl (fun g10 => ?_) (fun g10 => ?_)
  ·
    replace g10 := of_decide_eq_true g10
    refine WL.off rfl rfl rfl ?_
    refine WL.off rfl rfl rfl ?_
    refine WL.off rfl rfl rfl ?_
    refine WL.val (dx_pick rfl rfl rfl) rfl rfl ?_
    refine WL.nil ?_
    refine hK7 ?_
    refine WC.condT rfl ?_
    refine WC.seq fun K11 hK11 => ?_
    refine WC.region ?_
    refine WL.val (dx_assign rfl rfl) rfl rfl ?_
    refine WL.nil ?_
    refine hK11 ?_
    refine WC.ret fun a_ ha_ => ?_
    exact hQ (cv_ret1 rfl (.tmp rfl) rfl hB ha_)
  ·
    replace g10 := of_decide_eq_false g10
    refine WL.val (dx_move rfl rfl) rfl rfl ?_
    refine WL.get (dx_cv rfl Tryd.func18 rfl rfl rfl (rightB_v xs _ W9 _ hL h1 hM hsz)) rfl rfl ?_
    rintro _ W13 ⟨rfl, b12⟩
    replace h1 := h1.below b12
    replace hM := hM.below b12
    replace hB := below_then hB b12
    replace hL := LL.below hL b12
    refine WL.val (dx_not rfl rfl) rfl rfl ?_
    refine WL.val (dx_pick rfl rfl rfl) rfl rfl ?_
    refine WL.nil ?_
    refine hK7 ?_
    refine WC.cond rfl (fun c14 => ?_) (fun c14 => ?_)
    ·
      replace c14 := bnot_t c14
      refine WC.seq fun K15 hK15 => ?_
      refine WC.region ?_
      refine WL.val (dx_assign rfl rfl) rfl rfl ?_
      refine WL.nil ?_
      refine hK15 ?_
      refine WC.ret fun a_ ha_ => ?_
      exact hQ (cv_ret1 rfl (.tmp rfl) rfl hB ha_)
    ·
      replace c14 := bnot_f c14
      refine WC.skip ?_
      refine hK6 ?_
      refine WC.seq fun K16 hK16 => ?_
      refine WC.region ?_
      refine WL.val (dx_move rfl rfl) rfl rfl ?_
      refine WL.val (dx_move rfl rfl) rfl rfl ?_
      refine WL.get (dx_cv rfl Tryd.func20 rfl rfl rfl (of_v xs mx _ W13 _ hL h1 hM hsz)) rfl rfl ?_
      rintro u17 W20 ⟨j18, b19⟩
      replace h1 := h1.below b19
      replace hM := hM.below b19
      replace hB := below_then hB b19
      replace hL := LL.below hL b19
      refine WL.val (dx_assign rfl rfl) rfl rfl ?_
      refine WL.nil ?_
      refine hK16 ?_
      refine WC.seq fun K21 hK21 => ?_
      refine WC.region ?_
      refine WL.val (dx_assign rfl rfl) rfl rfl ?_
      refine WL.nil ?_
      refine hK21 ?_
      refine WC.seq fun K22 hK22 => ?_
      refine WC.seq fun K23 hK23 => ?_
      refine WC.region ?_
      refine WL.val (dx_assign rfl rfl) rfl rfl ?_
      refine WL.nil ?_
      refine hK23 ?_
      refine WC.block ?_
      refine WC.loop (fun (i : Nat) => [(0, sv), (1, .string mx), (5, u17), (7, .int .i64 (i : Int)), (6, .int .i64 ((((xs.take i).filter fun b => decide (b.2.1 = mx)).length : Nat) : Int))]) (fun (i : Nat) W => i ≤ xs.length ∧ Below w.heap.size w W ∧ LL (L) W ∧ RdF 4 (L) W sv (xs.map encB) ∧ MaxL (L) W ∧ RdF 2 (L) W u17 ((ofB xs mx).map encAd)) (fun (i : Nat) => xs.length - i) 0 (by repeat first | exact trivial | exact And.intro rfl trivial | refine And.intro rfl ?_ | refine And.intro (congrArg (fun z : Int => some (Value.int .i64 z)) (by omega)) ?_) ⟨Nat.zero_le _, hB, hL, h1, hM, j18⟩ ?_
      clear h1 hM j18 hB hL
      rintro K24 i W25 ⟨hi, hB, hL, h1, hM, j18⟩ hK24
      refine WC.seq fun K26 hK26 => ?_
      refine WC.seq fun K27 hK27 => ?_
      refine WC.region ?_
      refine WL.val (dx_move rfl rfl) rfl rfl ?_
      refine WL.val (dx_move rfl rfl) rfl rfl ?_
      refine WL.val (dx_lenX rfl ty_slice_38 rfl h1) rfl rfl ?_
      refine WL.val (dx_lss rfl rfl rfl) rfl rfl ?_
      refine WL.nil ?_
      refine hK27 ?_
      refine WC.cond rfl (fun c28 => ?_) (fun c28 => ?_)
      ·
        replace c28 := of_decide_eq_true c28
        refine WC.skip ?_
        refine hK26 ?_
        refine WC.seq fun K29 hK29 => ?_
        refine WC.block ?_
        refine WC.seq fun K30 hK30 => ?_
        refine WC.region ?_
        refine WL.val (dx_move rfl rfl) rfl rfl ?_
        refine WL.val (dx_move rfl rfl) rfl rfl ?_
        obtain ⟨r31, e32⟩ : ∃ x, xs[i]? = some x := ⟨_, List.getElem?_eq_getElem (by omega)⟩
        refine WL.get (dx_idxF i rfl ty_slice_38 rfl rfl h1 (by omega) (at_mapX e32)) rfl rfl ?_
        rintro u33 _ ⟨rfl, p34⟩
        refine WL.get (dx_fldP 1 rfl ty_fld_45_1_2 rfl p34 (cs' := [.string r31.2.1]) rfl (Nat.succ_pos _)) rfl rfl ?_
        rintro u35 _ ⟨rfl, p36⟩
        refine WL.val (dx_loadP rfl ty_one_9 rfl p36) rfl rfl ?_
        refine WL.val (dx_move rfl rfl) rfl rfl ?_
        refine WL.val (dx_eqlT rfl rfl rfl) rfl rfl ?_
        refine WL.nil ?_
        refine hK30 ?_
        refine WC.cond rfl (fun c37 => ?_) (fun c37 => ?_)
        ·
          replace c37 := of_decide_eq_true c37
          refine WC.region ?_
          refine WL.val (dx_move rfl rfl) rfl rfl ?_
          have q1 := filt_len (fun b => decide (b.2.1 = mx)) xs i
          have q2 := congrArg List.length (of_step mx e32)
          rw [if_pos (by assumption)] at q2
          simp only [List.length_map, List.length_append, List.length_cons, List.length_nil] at q2
          refine WL.val (dx_add (r := ((((xs.take (i + 1)).filter fun b => decide (b.2.1 = mx)).length : Nat) : Int)) rfl rfl rfl (by rw [wrap64_id (by omega)]; omega)) rfl rfl ?_
          refine WL.val (dx_assign rfl rfl) rfl rfl ?_
          refine WL.nil ?_
          refine hK29 ?_
          refine WC.region ?_
          refine WL.val (dx_move rfl rfl) rfl rfl ?_
          refine WL.val (dx_add (r := (i : Int) + 1) rfl rfl rfl (wrap64_id (by omega))) rfl rfl ?_
          refine WL.val (dx_assign rfl rfl) rfl rfl ?_
          refine WL.nil ?_
          exact hK24 (i + 1) ⟨(by omega), hB, hL, h1, hM, j18⟩ (by omega) (by repeat first | exact trivial | exact And.intro rfl trivial | refine And.intro rfl ?_ | refine And.intro (congrArg (fun z : Int => some (Value.int .i64 z)) (by omega)) ?_)
        ·
          replace c37 := of_decide_eq_false c37
          refine WC.skip ?_
          refine hK29 ?_
          refine WC.region ?_
          refine WL.val (dx_move rfl rfl) rfl rfl ?_
          refine WL.val (dx_add (r := (i : Int) + 1) rfl rfl rfl (wrap64_id (by omega))) rfl rfl ?_
          refine WL.val (dx_assign rfl rfl) rfl rfl ?_
          refine WL.nil ?_
          have q2 := congrArg List.length (of_step mx e32)
          rw [if_neg (by assumption), List.append_nil, List.length_map, List.length_map] at q2
          exact hK24 (i + 1) ⟨(by omega), hB, hL, h1, hM, j18⟩ (by omega) (by repeat first | exact trivial | exact And.intro rfl trivial | refine And.intro rfl ?_ | refine And.intro (congrArg (fun z : Int => some (Value.int .i64 z)) (by omega)) ?_)
      ·
        replace c28 := of_decide_eq_false c28
        refine WC.exit ?_
        refine hK22 ?_
        refine WC.seq fun K38 hK38 => ?_
        refine WC.seq fun K39 hK39 => ?_
        have hof := of_len xs mx
        refine WC.region ?_
        refine WL.val (dx_assign rfl rfl) rfl rfl ?_
        refine WL.nil ?_
        refine hK39 ?_
        refine WC.block ?_
        refine WC.loop (fun (j : Nat) => [(0, sv), (1, .string mx), (5, u17), (6, .int .i64 ((((xs.take i).filter fun b => decide (b.2.1 = mx)).length : Nat) : Int)), (8, .int .i64 (j : Int))]) (fun (j : Nat) W => j ≤ (ofB xs mx).length ∧ Below w.heap.size w W ∧ LL (L) W ∧ RdF 4 (L) W sv (xs.map encB) ∧ MaxL (L) W ∧ RdF 2 (L) W u17 ((ofB xs mx).map encAd)) (fun (j : Nat) => (ofB xs mx).length - j) 0 (by repeat first | exact trivial | exact And.intro rfl trivial | refine And.intro rfl ?_ | refine And.intro (congrArg (fun z : Int => some (Value.int .i64 z)) (by omega)) ?_) ⟨Nat.zero_le _, hB, hL, h1, hM, j18⟩ ?_
        clear h1 hM j18 hB hL
        rintro K40 j W41 ⟨hj, hB, hL, h1, hM, j18⟩ hK40
        refine WC.seq fun K42 hK42 => ?_
        refine WC.seq fun K43 hK43 => ?_
        refine WC.region ?_
        refine WL.val (dx_move rfl rfl) rfl rfl ?_
        refine WL.val (dx_move rfl rfl) rfl rfl ?_
        refine WL.val (dx_lenX rfl ty_slice_52 rfl j18) rfl rfl ?_
        refine WL.val (dx_lss rfl rfl rfl) rfl rfl ?_
        refine WL.nil ?_
        refine hK43 ?_
        refine WC.cond rfl (fun c44 => ?_) (fun c44 => ?_)
        ·
          replace c44 := of_decide_eq_true c44
          refine WC.skip ?_
          refine hK42 ?_
          refine WC.seq fun K45 hK45 => ?_
          refine WC.block ?_
          refine WC.seq fun K46 hK46 => ?_
          refine WC.region ?_
          refine WL.val (dx_move rfl rfl) rfl rfl ?_
          refine WL.val (dx_move rfl rfl) rfl rfl ?_
          refine WL.val (dx_move rfl rfl) rfl rfl ?_
          obtain ⟨r47, e48⟩ : ∃ x, (ofB xs mx)[j]? = some x := ⟨_, List.getElem?_eq_getElem (by omega)⟩
          refine WL.get (dx_idxF j rfl ty_slice_52 rfl rfl j18 (by omega) (at_mapX e48)) rfl rfl ?_
          rintro u49 _ ⟨rfl, p50⟩
          refine WL.val (dx_loadPN rfl ty_agg_43_2 rfl p50 rfl) rfl rfl ?_
          obtain ⟨c0, hcm, hcf⟩ := own_find (show rightB xs = true by assumption) e48
          refine WL.get (dx_cv rfl Tryd.func17 rfl rfl rfl ((show CV _ _ [_, _] _ (fun v W => v = .tuple #[.agg #[.string c0.1.1, .string c0.1.2, .string mx, .int .i64 c0.2.2], .bool true]) from by have := find_v xs r47.1 r47.2 _ W41 (L) hL h1 hM hsz; rw [hcf] at this; rw [← hcm]; exact this))) rfl rfl ?_
          rintro _ W52 ⟨rfl, b51⟩
          replace h1 := h1.below b51
          replace hM := hM.below b51
          replace j18 := j18.below b51
          replace p50 := p50.below b51
          replace hB := below_then hB b51
          replace hL := LL.below hL b51
          refine WL.val (dx_move rfl rfl) rfl rfl ?_
          refine WL.val (dx_extract rfl rfl rfl) rfl rfl ?_
          refine WL.val (dx_extract rfl rfl rfl) rfl rfl ?_
          refine WL.get (dx_alloc rfl ty_zero_45 rfl) rfl rfl ?_
          rintro _ W53 ⟨rfl, k54, b55, z56⟩
          have l57 := hB.size
          replace h1 := h1.more b55 (Nat.le_refl _)
          replace hM := hM.more b55 (Nat.le_refl _)
          replace j18 := j18.more b55 (Nat.le_refl _)
          replace p50 := p50.more b55 (Nat.le_refl _)
          replace hB := below_then hB b55
          replace hL := LL.more hL z56
          refine WL.do (dx_store (cs' := [.string c0.1.1, .string c0.1.2, .string mx, .int .i64 c0.2.2]) (vs := [.string c0.1.1, .string c0.1.2, .string mx, .int .i64 c0.2.2]) rfl ty_size_45_4 rfl rfl rfl (oc_cons rfl (oc_cons rfl (oc_cons rfl (oc_cons rfl oc_nil)))) k54 rfl (Nat.le_of_ble_eq_true rfl) rfl) rfl ?_
          rintro _ W58 ⟨k60, o59⟩
          clear k54
          replace h1 := h1.only o59 (.head _)
          replace hM := hM.only o59 (.head _)
          replace j18 := j18.only o59 (.head _)
          replace p50 := p50.only o59 (.head _)
          replace hB := o59.below hB l57
          replace hL := LL.only hL o59
          refine WL.val (dx_assign rfl rfl) rfl rfl ?_
          refine WL.nil ?_
          refine hK46 ?_
          refine WC.seq fun K61 hK61 => ?_
          refine WC.region ?_
          refine WL.val (dx_move rfl rfl) rfl rfl ?_
          refine WL.val (dx_not rfl rfl) rfl rfl ?_
          refine WL.val (dx_move rfl rfl) rfl rfl ?_
          refine WL.val (dx_fld (o1 := 2) rfl ty_fld_45_1_2 rfl rfl) rfl rfl ?_
          refine WL.val (dx_load rfl ty_one_9 rfl (k60.cell (k := 2) rfl)) rfl rfl ?_
          refine WL.val (dx_move rfl rfl) rfl rfl ?_
          refine WL.val (dx_neqT rfl rfl rfl) rfl rfl ?_
          refine WL.val (dx_pick rfl rfl rfl) rfl rfl ?_
          refine WL.nil ?_
          refine hK61 ?_
          refine WC.cond rfl (fun c62 => ?_) (fun c62 => ?_)
          ·
            replace c62 := bnot_t c62
            exact absurd rfl (of_decide_eq_false c62)
          ·
            replace c62 := bnot_f c62
            replace c62 := of_decide_eq_true c62
            refine WC.skip ?_
            refine hK45 ?_
            refine WC.region ?_
            refine WL.val (dx_move rfl rfl) rfl rfl ?_
            refine WL.val (dx_add (r := (j : Int) + 1) rfl rfl rfl (wrap64_id (by omega))) rfl rfl ?_
            refine WL.val (dx_assign rfl rfl) rfl rfl ?_
            refine WL.nil ?_
            replace hL := hL.less (fun x hx => (.tail _ hx))
            replace h1 := h1.less (fun x hx => (.tail _ hx))
            replace hM := hM.less (fun x hx => (.tail _ hx))
            replace j18 := j18.less (fun x hx => (.tail _ hx))
            exact hK40 (j + 1) ⟨(by omega), hB, hL, h1, hM, j18⟩ (by omega) (by repeat first | exact trivial | exact And.intro rfl trivial | refine And.intro rfl ?_ | refine And.intro (congrArg (fun z : Int => some (Value.int .i64 z)) (by omega)) ?_)
        ·
          replace c44 := of_decide_eq_false c44
          refine WC.exit ?_
          refine hK38 ?_
          refine WC.seq fun K63 hK63 => ?_
          refine WC.region ?_
          refine WL.val (dx_move rfl rfl) rfl rfl ?_
          refine WL.val (dx_move rfl rfl) rfl rfl ?_
          refine WL.val (dx_lenX rfl ty_slice_52 rfl j18) rfl rfl ?_
          refine WL.val (dx_eql rfl rfl rfl) rfl rfl ?_
          refine WL.val (dx_assign rfl rfl) rfl rfl ?_
          refine WL.nil ?_
          refine hK63 ?_
          refine WC.ret fun a_ ha_ => ?_
          exact hQ (cv_ret1 rfl (.tmp rfl) (by have hr : ofB xs mx = (xs.filter fun b => decide (b.2.1 = mx)).map (·.1) := (by unfold ofB; rw [if_pos (by assumption)]); have ht : xs.take i = xs := List.take_of_length_le (by omega); have hl : (ofB xs mx).length = ((xs.take i).filter fun b => decide (b.2.1 = mx)).length := (by rw [hr, ht, List.length_map]); rw [hl, decide_eq_true rfl]) hB ha_)

end Go.Proofs.YthefddclefimoaaDoor

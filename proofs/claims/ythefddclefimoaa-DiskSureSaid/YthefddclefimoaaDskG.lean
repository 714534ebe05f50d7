/- The reference on disks: Arm, Sync, Torn. -/
import Derived.Test.YthefddclefimoaaDskF
namespace Go.Proofs.Ythefddclefimoaa
open Go.RowKit
set_option linter.unusedVariables false
set_option linter.unusedSimpArgs false
set_option maxRecDepth 8000

set_option maxHeartbeats 1000000 in
theorem rarm_v (secs : List (List Int)) (loose : List (Int × List Int)) (fuse : Int) (down : Bool) (s1 s2 : Value) (n : Int) (w : World) (L : List Nat) (hL : LL L w) (h1 : RdF 128 L w s1 (secs.map encS)) (h2 : RdF 129 L w s2 (loose.map encW)) : CV Try.prog 23 [.agg #[s1, s2, .int .i64 fuse, .bool down], .int .i64 n] w fun v W => v = .agg #[s1, s2, .int .i64 (if n < -1 then -1 else n), .bool down] := by
  refine cv_enter (N := 9) (f := [(0, .agg #[s1, s2, .int .i64 fuse, .bool down]), (1, .int .i64 n)]) Try.func23 rfl rfl rfl rfl fun Q hQ hE => ?_
  have hB := Below.refl w.heap.size w
  have h1m : secs.length ≤ maxLen := by have := h1.len; rwa [List.length_map] at this
  unfold maxLen at h1m
  have h2m : loose.length ≤ maxLen := by have := h2.len; rwa [List.length_map] at this
  unfold maxLen at h2m
  refine WC.seq fun K1 hK1 => ?_
  refine WC.region ?_
  refine WL.get (dx_box rfl rfl rfl) rfl rfl ?_
  rintro _ W2 ⟨rfl, k3, b4, z5⟩
  have l6 := hB.size
  replace h1 := h1.more b4 (Nat.le_refl _)
  replace h2 := h2.more b4 (Nat.le_refl _)
  replace hB := below_then hB b4
  replace hL := LL.more hL z5
  refine WL.get (dx_alloc rfl ty_zero_25 rfl) rfl rfl ?_
  rintro _ W7 ⟨rfl, k8, b9, z10⟩
  have n11 : w.heap.size ≠ W2.heap.size := Nat.ne_of_lt k3.lt
  have l12 := hB.size
  replace h1 := h1.more b9 (Nat.le_refl _)
  replace h2 := h2.more b9 (Nat.le_refl _)
  replace k3 := k3.below b9
  replace hB := below_then hB b9
  replace hL := LL.more hL z10
  refine WL.nil ?_
  refine hK1 ?_
  refine WC.seq fun K13 hK13 => ?_
  refine WC.region ?_
  refine WL.val (dx_move rfl rfl) rfl rfl ?_
  refine WL.val (dx_max rfl rfl rfl) rfl rfl ?_
  refine WL.val (dx_fld (o1 := 2) rfl ty_fld_25_2_2 rfl rfl) rfl rfl ?_
  refine WL.do (dx_store (cs' := [s1, s2, .int .i64 (if n < (-1) then (-1) else n), .bool down]) (vs := [.int .i64 (if n < (-1) then (-1) else n)]) rfl ty_size_3_1 rfl rfl rfl (oc_cons rfl oc_nil) k3 rfl (Nat.le_of_ble_eq_true rfl) rfl) rfl ?_
  rintro _ W14 ⟨k16, o15⟩
  replace k8 := k8.other o15 n11.symm
  clear k3
  replace h1 := h1.only o15 (.tail _ (.head _))
  replace h2 := h2.only o15 (.tail _ (.head _))
  replace hB := o15.below hB l6
  replace hL := LL.only hL o15
  refine WL.nil ?_
  refine hK13 ?_
  refine WC.seq fun K17 hK17 => ?_
  refine WC.region ?_
  refine WL.val (dx_loadN rfl ty_agg_25_4 rfl k16.range rfl) rfl rfl ?_
  refine WL.do (dx_store (cs' := [s1, s2, .int .i64 (if n < (-1) then (-1) else n), .bool down]) (vs := [s1, s2, .int .i64 (if n < (-1) then (-1) else n), .bool down]) rfl ty_size_25_4 rfl rfl rfl (oc_cons h1.one (oc_cons h2.one (oc_cons rfl (oc_cons rfl oc_nil)))) k8 rfl (Nat.le_of_ble_eq_true rfl) rfl) rfl ?_
  rintro _ W18 ⟨k20, o19⟩
  replace k16 := k16.other o19 n11
  clear k8
  replace h1 := h1.only o19 (.head _)
  replace h2 := h2.only o19 (.head _)
  replace hB := o19.below hB l12
  replace hL := LL.only hL o19
  refine WL.nil ?_
  refine hK17 ?_
  refine WC.ret fun a_ ha_ => ?_
  exact hQ (cv_ret1 rfl (.agg rfl ty_agg_25_4 k20.range rfl) rfl hB ha_)

theorem sync_bad {secs : List (List Int)} {loose : List (Int × List Int)} {fuse : Int} {down : Bool} (h : rightD secs loose = false) : syncS secs loose fuse down = ⟨secs, loose, fuse, down, 1⟩ := by unfold syncS; rw [if_pos h]
theorem sync_dead {secs : List (List Int)} {loose : List (Int × List Int)} {fuse : Int} {down : Bool} (h : rightD secs loose = true) (hs : (stS fuse down).2.2 = false) : syncS secs loose fuse down = ⟨secs, loose, (stS fuse down).1, (stS fuse down).2.1, 9⟩ := by
  unfold syncS
  by_cases hd : down = true
  · simp [h, hd, stS]
  · by_cases hf : fuse = 0
    · simp [h, hd, hf, stS, burnS]
    · exfalso; simp [stS, hd, hf] at hs; split at hs <;> simp at hs
theorem sync_well {secs : List (List Int)} {loose : List (Int × List Int)} {fuse : Int} {down : Bool} (h : rightD secs loose = true) (hs : (stS fuse down).2.2 = true) : syncS secs loose fuse down = ⟨settleS (fun _ _ z => z) loose secs 0, [], (stS fuse down).1, (stS fuse down).2.1, 0⟩ := by
  unfold syncS
  by_cases hd : down = true
  · simp [hd, stS] at hs
  · by_cases hf : fuse = 0
    · simp [hf, stS] at hs
    · by_cases hp : 0 < fuse <;> simp [h, hd, hf, hp, stS, burnS]
theorem settle_stepZ {l : List (Int × List Int)} {cur : List (List Int)} {i : Nat} {p : Int × List Int} (h : l[i]? = some p) : settleS (fun _ _ z => z) (l.drop i) cur i = settleS (fun _ _ z => z) (l.drop (i + 1)) (cur.set p.1.toNat p.2) (i + 1) := by
  obtain ⟨hl, he⟩ := List.getElem?_eq_some_iff.1 h
  rw [List.drop_eq_getElem_cons hl, he, settleS]
set_option maxHeartbeats 1000000 in
theorem rsync_v (secs : List (List Int)) (loose : List (Int × List Int)) (fuse : Int) (down : Bool) (s1 s2 : Value) (w : World) (L : List Nat) (hL : LL L w) (h1 : RdF 128 L w s1 (secs.map encS)) (h2 : RdF 129 L w s2 (loose.map encW))  (hL0 : LL L w) (hfu : -9223372036854775808 ≤ fuse ∧ fuse ≤ 9223372036854775807) : CV Try.prog 21 [.agg #[s1, s2, .int .i64 fuse, .bool down]] w fun v W => ∃ s1' s2', v = .tuple #[.agg #[s1', s2', .int .i64 (syncS secs loose fuse down).fuse, .bool (syncS secs loose fuse down).down], .int .i64 (syncS secs loose fuse down).err] ∧ RdF 128 L W s1' ((syncS secs loose fuse down).secs.map encS) ∧ RdF 129 L W s2' ((syncS secs loose fuse down).loose.map encW) := by
  refine cv_enter (N := 48) (f := [(0, .agg #[s1, s2, .int .i64 fuse, .bool down])]) Try.func21 rfl rfl rfl rfl fun Q hQ hE => ?_
  have hB := Below.refl w.heap.size w
  have h1m : secs.length ≤ maxLen := by have := h1.len; rwa [List.length_map] at this
  unfold maxLen at h1m
  have h2m : loose.length ≤ maxLen := by have := h2.len; rwa [List.length_map] at this
  unfold maxLen at h2m
  refine WC.seq fun K1 hK1 => ?_
  refine WC.region ?_
  refine WL.get (dx_box rfl rfl rfl) rfl rfl ?_
  rintro _ W2 ⟨rfl, k3, b4, z5⟩
  have l6 := hB.size
  replace h1 := h1.more b4 (Nat.le_refl _)
  replace h2 := h2.more b4 (Nat.le_refl _)
  replace hB := below_then hB b4
  replace hL := LL.more hL z5
  refine WL.get (dx_alloc rfl ty_zero_25 rfl) rfl rfl ?_
  rintro _ W7 ⟨rfl, k8, b9, z10⟩
  have n11 : w.heap.size ≠ W2.heap.size := Nat.ne_of_lt k3.lt
  have l12 := hB.size
  replace h1 := h1.more b9 (Nat.le_refl _)
  replace h2 := h2.more b9 (Nat.le_refl _)
  replace k3 := k3.below b9
  replace hB := below_then hB b9
  replace hL := LL.more hL z10
  refine WL.val (dx_assign rfl rfl) rfl rfl ?_
  refine WL.nil ?_
  refine hK1 ?_
  refine WC.seq fun K13 hK13 => ?_
  refine WC.seq fun K14 hK14 => ?_
  refine WC.region ?_
  refine WL.val (dx_loadN rfl ty_agg_25_4 rfl k3.range rfl) rfl rfl ?_
  refine WL.get (dx_cv rfl Try.func17 rfl rfl rfl (rright_v secs loose fuse down _ _ W7 _ hL h1 h2)) rfl rfl ?_
  rintro _ W16 ⟨rfl, b15⟩
  replace h1 := h1.below b15
  replace h2 := h2.below b15
  replace k3 := k3.below b15
  replace k8 := k8.below b15
  replace hB := below_then hB b15
  replace hL := LL.below hL b15
  refine WL.val (dx_not rfl rfl) rfl rfl ?_
  refine WL.nil ?_
  refine hK14 ?_
  refine WC.cond rfl (fun c17 => ?_) (fun c17 => ?_)
  ·
    replace c17 := bnot_t c17
    refine WC.seq fun K18 hK18 => ?_
    refine WC.region ?_
    refine WL.val (dx_loadN rfl ty_agg_25_4 rfl k3.range rfl) rfl rfl ?_
    refine WL.do (dx_store (cs' := [s1, s2, .int .i64 fuse, .bool down]) (vs := [s1, s2, .int .i64 fuse, .bool down]) rfl ty_size_25_4 rfl rfl rfl (oc_cons h1.one (oc_cons h2.one (oc_cons rfl (oc_cons rfl oc_nil)))) k8 rfl (Nat.le_of_ble_eq_true rfl) rfl) rfl ?_
    rintro _ W19 ⟨k21, o20⟩
    replace k3 := k3.other o20 n11
    clear k8
    replace h1 := h1.only o20 (.head _)
    replace h2 := h2.only o20 (.head _)
    replace hB := o20.below hB l12
    replace hL := LL.only hL o20
    refine WL.val (dx_assign rfl rfl) rfl rfl ?_
    refine WL.nil ?_
    refine hK18 ?_
    refine WC.ret fun a_ ha_ => ?_
    exact hQ (cv_ret2 rfl (.agg rfl ty_agg_25_4 k21.range rfl) (.tmp rfl) (by rw [sync_bad (by first | assumption | (simp_all; done) | omega)]; exact ⟨_, _, rfl, (h1.less (fun x hx => (.tail _ (.tail _ hx)))), (h2.less (fun x hx => (.tail _ (.tail _ hx))))⟩) hB ha_)
  ·
    replace c17 := bnot_f c17
    have hr := right_of c17; obtain ⟨hne, hsm, hlm, hrt⟩ := hr
    refine WC.skip ?_
    refine hK13 ?_
    refine WC.seq fun K22 hK22 => ?_
    refine WC.region ?_
    refine WL.val (dx_loadN rfl ty_agg_25_4 rfl k3.range rfl) rfl rfl ?_
    refine WL.get (dx_cv rfl Try.func30 rfl rfl rfl (step_v secs loose fuse down _ _ W16 _ hL h1 h2 hfu)) rfl rfl ?_
    rintro _ W24 ⟨rfl, b23⟩
    replace h1 := h1.below b23
    replace h2 := h2.below b23
    replace k3 := k3.below b23
    replace k8 := k8.below b23
    replace hB := below_then hB b23
    replace hL := LL.below hL b23
    refine WL.val (dx_move rfl rfl) rfl rfl ?_
    refine WL.val (dx_extract rfl rfl rfl) rfl rfl ?_
    refine WL.val (dx_extract rfl rfl rfl) rfl rfl ?_
    refine WL.get (dx_alloc rfl ty_zero_25 rfl) rfl rfl ?_
    rintro _ W25 ⟨rfl, k26, b27, z28⟩
    have n29 : w.heap.size ≠ W24.heap.size := Nat.ne_of_lt k3.lt
    have n30 : W2.heap.size ≠ W24.heap.size := Nat.ne_of_lt k8.lt
    have l31 := hB.size
    replace h1 := h1.more b27 (Nat.le_refl _)
    replace h2 := h2.more b27 (Nat.le_refl _)
    replace k3 := k3.below b27
    replace k8 := k8.below b27
    replace hB := below_then hB b27
    replace hL := LL.more hL z28
    refine WL.do (dx_store (cs' := [s1, s2, .int .i64 ((stS fuse down).1), .bool ((stS fuse down).2.1)]) (vs := [s1, s2, .int .i64 ((stS fuse down).1), .bool ((stS fuse down).2.1)]) rfl ty_size_25_4 rfl rfl rfl (oc_cons h1.one (oc_cons h2.one (oc_cons rfl (oc_cons rfl oc_nil)))) k26 rfl (Nat.le_of_ble_eq_true rfl) rfl) rfl ?_
    rintro _ W32 ⟨k34, o33⟩
    replace k3 := k3.other o33 n29
    replace k8 := k8.other o33 n30
    clear k26
    replace h1 := h1.only o33 (.head _)
    replace h2 := h2.only o33 (.head _)
    replace hB := o33.below hB l31
    replace hL := LL.only hL o33
    refine WL.val (dx_assign rfl rfl) rfl rfl ?_
    refine WL.nil ?_
    refine hK22 ?_
    refine WC.seq fun K35 hK35 => ?_
    refine WC.seq fun K36 hK36 => ?_
    refine WC.region ?_
    refine WL.val (dx_move rfl rfl) rfl rfl ?_
    refine WL.val (dx_not rfl rfl) rfl rfl ?_
    refine WL.nil ?_
    refine hK36 ?_
    refine WC.cond rfl (fun c37 => ?_) (fun c37 => ?_)
    ·
      replace c37 := bnot_t c37
      refine WC.seq fun K38 hK38 => ?_
      refine WC.region ?_
      refine WL.val (dx_loadN rfl ty_agg_25_4 rfl k34.range rfl) rfl rfl ?_
      refine WL.do (dx_store (cs' := [s1, s2, .int .i64 ((stS fuse down).1), .bool ((stS fuse down).2.1)]) (vs := [s1, s2, .int .i64 ((stS fuse down).1), .bool ((stS fuse down).2.1)]) rfl ty_size_25_4 rfl rfl rfl (oc_cons h1.one (oc_cons h2.one (oc_cons rfl (oc_cons rfl oc_nil)))) k8 rfl (Nat.le_of_ble_eq_true rfl) rfl) rfl ?_
      rintro _ W39 ⟨k41, o40⟩
      replace k3 := k3.other o40 n11
      replace k34 := k34.other o40 n30.symm
      clear k8
      replace h1 := h1.only o40 (.tail _ (.head _))
      replace h2 := h2.only o40 (.tail _ (.head _))
      replace hB := o40.below hB l12
      replace hL := LL.only hL o40
      refine WL.val (dx_assign rfl rfl) rfl rfl ?_
      refine WL.nil ?_
      refine hK38 ?_
      refine WC.ret fun a_ ha_ => ?_
      exact hQ (cv_ret2 rfl (.agg rfl ty_agg_25_4 k41.range rfl) (.tmp rfl) (by rw [sync_dead (by first | assumption | (simp_all; done) | omega) (by first | assumption | (simp_all; done) | omega)]; exact ⟨_, _, rfl, (h1.less (fun x hx => (.tail _ (.tail _ (.tail _ hx))))), (h2.less (fun x hx => (.tail _ (.tail _ (.tail _ hx)))))⟩) hB ha_)
    ·
      replace c37 := bnot_f c37
      refine WC.skip ?_
      refine hK35 ?_
      refine WC.seq fun K42 hK42 => ?_
      refine WC.region ?_
      refine WL.get (dx_lit0 rfl ty_ap_22 (by decide)) rfl rfl ?_
      rintro u47 W43 ⟨k44, b45, z46⟩
      have n48 : w.heap.size ≠ W32.heap.size := Nat.ne_of_lt k3.lt
      have n49 : W2.heap.size ≠ W32.heap.size := Nat.ne_of_lt k8.lt
      have n50 : W24.heap.size ≠ W32.heap.size := Nat.ne_of_lt k34.lt
      have l51 := hB.size
      replace h1 := h1.more b45 (Nat.le_refl _)
      replace h2 := h2.more b45 (Nat.le_refl _)
      replace k3 := k3.below b45
      replace k8 := k8.below b45
      replace k34 := k34.below b45
      replace hB := below_then hB b45
      replace hL := LL.more hL z46
      refine WL.val (dx_fld (o1 := 0) rfl ty_fld_25_0_0 rfl rfl) rfl rfl ?_
      refine WL.val (dx_load rfl ty_one_22 rfl (k34.cell (k := 0) rfl)) rfl rfl ?_
      refine WL.get (dx_apO' (rs := []) (news := (secs.map encS)) rfl ty_ap_22 rfl rfl k44 h1 (oc_rows oc_S secs) (by simp; unfold maxLen; omega) (by simp; omega)) rfl rfl ?_
      rintro u55 W52 ⟨B56, k53, g54⟩
      have n57 : w.heap.size ≠ B56 := k3.grow_ne g54 n48
      have n58 : W2.heap.size ≠ B56 := k8.grow_ne g54 n49
      have n59 : W24.heap.size ≠ B56 := k34.grow_ne g54 n50
      have l60 := g54.le l51 hB.size
      replace h1 := h1.grow' g54 (.head _)
      replace h2 := h2.grow' g54 (.head _)
      replace k3 := k3.grow g54 n48
      replace k8 := k8.grow g54 n49
      replace k34 := k34.grow g54 n50
      replace hB := g54.below hB l51 hB.size
      replace hL := LL.grow hL g54 k53.lt
      rw [List.nil_append] at k53
      refine WL.val (dx_fld (o1 := 0) rfl ty_fld_25_0_0 rfl rfl) rfl rfl ?_
      refine WL.do (dx_store (cs' := [u55, s2, .int .i64 ((stS fuse down).1), .bool ((stS fuse down).2.1)]) (vs := [u55]) rfl ty_size_22_1 rfl rfl (oc_one k53.one) (oc_cons k53.one oc_nil) k34 rfl (Nat.le_of_ble_eq_true rfl) rfl) rfl ?_
      rintro _ W61 ⟨k63, o62⟩
      replace k3 := k3.other o62 n29
      replace k8 := k8.other o62 n30
      replace k53 := k53.other o62 n59.symm
      clear k34
      replace h1 := h1.only o62 (.tail _ (.tail _ (.head _)))
      replace h2 := h2.only o62 (.tail _ (.tail _ (.head _)))
      replace hB := o62.below hB l31
      replace hL := LL.only hL o62
      refine WL.nil ?_
      refine hK42 ?_
      refine WC.seq fun K64 hK64 => ?_
      refine WC.seq fun K65 hK65 => ?_
      refine WC.region ?_
      refine WL.val (dx_assign rfl rfl) rfl rfl ?_
      refine WL.nil ?_
      refine hK65 ?_
      refine WC.block ?_
      refine WC.loop2 (fun (i : Nat) (cur : List (List Int)) => [(1, .pointer (some ⟨w.heap.size, 0, none⟩)), (2, .pointer (some ⟨W2.heap.size, 0, none⟩)), (4, .pointer (some ⟨W24.heap.size, 0, none⟩)), (6, .int .i64 (i : Int))]) (fun (i : Nat) (cur : List (List Int)) W => i ≤ loose.length ∧ settleS (fun _ _ z => z) loose secs 0 = settleS (fun _ _ z => z) (loose.drop i) cur i ∧ cur.length = secs.length ∧ Below w.heap.size w W ∧ LL (B56 :: W32.heap.size :: W24.heap.size :: W2.heap.size :: w.heap.size :: L) W ∧ RdF 128 (B56 :: W32.heap.size :: W24.heap.size :: W2.heap.size :: w.heap.size :: L) W s1 (secs.map encS) ∧ RdF 129 (B56 :: W32.heap.size :: W24.heap.size :: W2.heap.size :: w.heap.size :: L) W s2 (loose.map encW) ∧ Blk W w.heap.size [s1, s2, .int .i64 fuse, .bool down] ∧ Blk W W2.heap.size [.slice none 0 0, .slice none 0 0, .int .i64 0, .bool false] ∧ Blk W W24.heap.size [u55, s2, .int .i64 ((stS fuse down).1), .bool ((stS fuse down).2.1)] ∧ OwS 128 W u55 (cur.map encS) B56) (fun (i : Nat) (cur : List (List Int)) => loose.length - i) 0 secs (by repeat first | exact trivial | exact And.intro rfl trivial | refine And.intro rfl ?_ | refine And.intro (congrArg (fun z : Int => some (Value.int .i64 z)) (by omega)) ?_) ⟨Nat.zero_le _, rfl, rfl, hB, hL, h1, h2, k3, k8, k63, k53⟩ ?_
      clear h1 h2 k3 k8 k63 k53 hB hL
      rintro K66 i cur W67 ⟨hi, hv, hc, hB, hL, h1, h2, k3, k8, k63, k53⟩ hK66
      refine WC.seq fun K68 hK68 => ?_
      refine WC.seq fun K69 hK69 => ?_
      refine WC.region ?_
      refine WL.val (dx_move rfl rfl) rfl rfl ?_
      refine WL.val (dx_fld (o1 := 1) rfl ty_fld_25_1_1 rfl rfl) rfl rfl ?_
      refine WL.val (dx_load rfl ty_one_23 rfl (k63.cell (k := 1) rfl)) rfl rfl ?_
      refine WL.val (dx_lenM rfl ty_slice_23 rfl h2) rfl rfl ?_
      refine WL.val (dx_lss rfl rfl rfl) rfl rfl ?_
      refine WL.nil ?_
      refine hK69 ?_
      refine WC.cond rfl (fun c70 => ?_) (fun c70 => ?_)
      ·
        replace c70 := of_decide_eq_true c70
        refine WC.skip ?_
        refine hK68 ?_
        refine WC.seq fun K71 hK71 => ?_
        refine WC.block ?_
        obtain ⟨r72, e73⟩ : ∃ x, loose[i]? = some x := ⟨_, List.getElem?_eq_getElem (by omega)⟩
        have Lr72 := rdf_W h2 e73
        have Rr72 := hrt r72 (List.mem_of_getElem? e73)
        refine WC.drawM 14 [(some 31, .is (.pointer (some ⟨W24.heap.size, 0, none⟩))), (some 32, .is (u55)), (some 33, .is (.pointer (some ⟨W24.heap.size, 1, none⟩))), (some 34, .is (s2)), (some 35, .is (.int .i64 (i : Int))), (some 36, .by fun u W => PtR (B56 :: W32.heap.size :: W24.heap.size :: W2.heap.size :: w.heap.size :: L) W u (encW r72)), (some 37, .by fun u W => PtR (B56 :: W32.heap.size :: W24.heap.size :: W2.heap.size :: w.heap.size :: L) W u [.int .i64 r72.1]), (some 38, .is (.int .i64 r72.1)), (some 39, .is (.pointer (some ⟨W24.heap.size, 1, none⟩))), (some 40, .is (s2)), (some 41, .is (.int .i64 (i : Int))), (some 42, .by fun u W => PtR (B56 :: W32.heap.size :: W24.heap.size :: W2.heap.size :: w.heap.size :: L) W u (encW r72)), (some 43, .by fun u W => PtR (B56 :: W32.heap.size :: W24.heap.size :: W2.heap.size :: w.heap.size :: L) W u (encS r72.2)), (some 44, .is (.agg (encS r72.2).toArray))] [[], [0], [], [2], [], [3, 4], [5], [6], [], [8], [], [9, 10], [11], [12]] (by kernel_rfl) (by kernel_rfl) (by kernel_rfl) (by kernel_rfl) (by kernel_rfl) (by kernel_rfl) (by kernel_rfl) ⟨fun _ _ _ hb h => h.below hb, fun _ _ _ hb h => h.below hb, fun _ _ _ hb h => h.below hb, fun _ _ _ hb h => h.below hb, trivial⟩ ?_ ?_
        ·
          refine DSteps.cons (fun Wd hd => ?_) ?_
          ·
            exact DV.dr (dx_fld (o1 := 0) rfl ty_fld_25_0_0 rfl rfl) ⟨Below.refl _ _, rfl⟩
          refine DSteps.cons (fun Wd hd => ?_) ?_
          ·
            have k63 := k63.below hd
            exact DV.dr (dx_load rfl ty_one_22 rfl (k63.cell (k := 0) rfl)) ⟨Below.refl _ _, rfl⟩
          refine DSteps.cons (fun Wd hd => ?_) ?_
          ·
            exact DV.dr (dx_fld (o1 := 1) rfl ty_fld_25_1_1 rfl rfl) ⟨Below.refl _ _, rfl⟩
          refine DSteps.cons (fun Wd hd => ?_) ?_
          ·
            have k63 := k63.below hd
            exact DV.dr (dx_load rfl ty_one_23 rfl (k63.cell (k := 1) rfl)) ⟨Below.refl _ _, rfl⟩
          refine DSteps.cons (fun Wd hd => ?_) ?_
          ·
            exact DV.dr (dx_move rfl rfl) ⟨Below.refl _ _, rfl⟩
          refine DSteps.cons (fun Wd hd => ?_) ?_
          ·
            have h2 := h2.below hd
            exact (dx_idxF i rfl ty_slice_23 rfl rfl h2 (by omega) (at_map e73)).mono (fun v W' h => ⟨by rw [← h.1]; exact Below.refl _ _, by rw [← h.1]; exact h.2⟩)
          refine DSteps.cons (fun Wd hd => ?_) ?_
          ·
            intro u10_5 p10_5
            exact (dx_fldP 1 rfl ty_fld_59_0_0 rfl p10_5 (cs' := [.int .i64 r72.1]) (by simp [encW, List.take_of_length_le, encS_len, Lr72]) (Nat.succ_pos _)).mono (fun v W' h => ⟨by rw [← h.1]; exact Below.refl _ _, by rw [← h.1]; exact h.2⟩)
          refine DSteps.cons (fun Wd hd => ?_) ?_
          ·
            intro u10_6 p10_6
            exact DV.dr (dx_loadP rfl ty_one_3 rfl p10_6) ⟨Below.refl _ _, rfl⟩
          refine DSteps.cons (fun Wd hd => ?_) ?_
          ·
            exact DV.dr (dx_fld (o1 := 1) rfl ty_fld_25_1_1 rfl rfl) ⟨Below.refl _ _, rfl⟩
          refine DSteps.cons (fun Wd hd => ?_) ?_
          ·
            have k63 := k63.below hd
            exact DV.dr (dx_load rfl ty_one_23 rfl (k63.cell (k := 1) rfl)) ⟨Below.refl _ _, rfl⟩
          refine DSteps.cons (fun Wd hd => ?_) ?_
          ·
            exact DV.dr (dx_move rfl rfl) ⟨Below.refl _ _, rfl⟩
          refine DSteps.cons (fun Wd hd => ?_) ?_
          ·
            have h2 := h2.below hd
            exact (dx_idxF i rfl ty_slice_23 rfl rfl h2 (by omega) (at_map e73)).mono (fun v W' h => ⟨by rw [← h.1]; exact Below.refl _ _, by rw [← h.1]; exact h.2⟩)
          refine DSteps.cons (fun Wd hd => ?_) ?_
          ·
            intro u10_11 p10_11
            exact (dx_fldP 128 rfl ty_fld_59_1_1 rfl p10_11 (cs' := (encS r72.2)) (by simp [encW, List.take_of_length_le, encS_len, Lr72]) (by simp [encW, encS_len, Lr72])).mono (fun v W' h => ⟨by rw [← h.1]; exact Below.refl _ _, by rw [← h.1]; exact h.2⟩)
          refine DSteps.cons (fun Wd hd => ?_) ?_
          ·
            intro u10_12 p10_12
            exact DV.dr (dx_loadPN rfl ty_agg_27_128 rfl p10_12 (by rw [encS_len]; exact Lr72)) ⟨Below.refl _ _, rfl⟩
          exact trivial
        ·
          intro W74 b75
          intro u10_5 p10_5
          intro u10_6 p10_6
          intro u10_11 p10_11
          intro u10_12 p10_12
          replace h1 := h1.below b75
          replace h2 := h2.below b75
          replace k3 := k3.below b75
          replace k8 := k8.below b75
          replace k63 := k63.below b75
          replace k53 := k53.below b75
          replace hB := below_then hB b75
          replace hL := LL.below hL b75
          refine WL.val (dx_idxO r72.1.toNat rfl ty_slice_22 rfl rfl k53 (by omega) (by rw [List.length_map]; omega) rfl) rfl rfl ?_
          refine WL.do (dx_storeO (r := (encS r72.2)) rfl ty_size_27_128 rfl rfl rfl (oc_S r72.2) k53 rfl (by rw [List.length_map]; omega) (by rw [encS_len]; exact Lr72)) rfl ?_
          rintro _ W76 ⟨k78, o77⟩
          replace k3 := k3.other o77 n57
          replace k8 := k8.other o77 n58
          replace k63 := k63.other o77 n59
          clear k53
          replace h1 := h1.only o77 (.head _)
          replace h2 := h2.only o77 (.head _)
          replace p10_5 := p10_5.only o77 (.head _)
          replace p10_6 := p10_6.only o77 (.head _)
          replace p10_11 := p10_11.only o77 (.head _)
          replace p10_12 := p10_12.only o77 (.head _)
          replace hB := o77.below hB l60
          replace hL := LL.only hL o77
          rw [← List.map_set] at k78
          refine WL.nil ?_
          refine hK71 ?_
          refine WC.region ?_
          refine WL.val (dx_move rfl rfl) rfl rfl ?_
          refine WL.val (dx_add (r := (i : Int) + 1) rfl rfl rfl (wrap64_id (by omega))) rfl rfl ?_
          refine WL.val (dx_assign rfl rfl) rfl rfl ?_
          refine WL.nil ?_
          exact hK66 (i + 1) (cur.set r72.1.toNat r72.2) ⟨(by omega), (by rw [hv]; exact settle_stepZ e73), (by rw [List.length_set]; exact hc), hB, hL, h1, h2, k3, k8, k63, k78⟩ (by omega) (by repeat first | exact trivial | exact And.intro rfl trivial | refine And.intro rfl ?_ | refine And.intro (congrArg (fun z : Int => some (Value.int .i64 z)) (by omega)) ?_)
      ·
        replace c70 := of_decide_eq_false c70
        refine WC.exit ?_
        refine hK64 ?_
        refine WC.seq fun K79 hK79 => ?_
        refine WC.region ?_
        refine WL.val (dx_fld (o1 := 1) rfl ty_fld_25_1_1 rfl rfl) rfl rfl ?_
        refine WL.do (dx_store (cs' := [u55, .slice none 0 0, .int .i64 ((stS fuse down).1), .bool ((stS fuse down).2.1)]) (vs := [.slice none 0 0]) rfl ty_size_23_1 rfl rfl rfl (oc_cons rfl oc_nil) k63 rfl (Nat.le_of_ble_eq_true rfl) rfl) rfl ?_
        rintro _ W80 ⟨k82, o81⟩
        replace k3 := k3.other o81 n29
        replace k8 := k8.other o81 n30
        replace k53 := k53.other o81 n59.symm
        clear k63
        replace h1 := h1.only o81 (.tail _ (.tail _ (.head _)))
        replace h2 := h2.only o81 (.tail _ (.tail _ (.head _)))
        replace hB := o81.below hB l31
        replace hL := LL.only hL o81
        refine WL.nil ?_
        refine hK79 ?_
        refine WC.seq fun K83 hK83 => ?_
        refine WC.region ?_
        refine WL.val (dx_loadN rfl ty_agg_25_4 rfl k82.range rfl) rfl rfl ?_
        refine WL.do (dx_store (cs' := [u55, .slice none 0 0, .int .i64 ((stS fuse down).1), .bool ((stS fuse down).2.1)]) (vs := [u55, .slice none 0 0, .int .i64 ((stS fuse down).1), .bool ((stS fuse down).2.1)]) rfl ty_size_25_4 rfl rfl rfl (oc_cons k53.one (oc_cons rfl (oc_cons rfl (oc_cons rfl oc_nil)))) k8 rfl (Nat.le_of_ble_eq_true rfl) rfl) rfl ?_
        rintro _ W84 ⟨k86, o85⟩
        replace k3 := k3.other o85 n11
        replace k82 := k82.other o85 n30.symm
        replace k53 := k53.other o85 n58.symm
        clear k8
        replace h1 := h1.only o85 (.tail _ (.tail _ (.tail _ (.head _))))
        replace h2 := h2.only o85 (.tail _ (.tail _ (.tail _ (.head _))))
        replace hB := o85.below hB l12
        replace hL := LL.only hL o85
        refine WL.val (dx_assign rfl rfl) rfl rfl ?_
        refine WL.nil ?_
        refine hK83 ?_
        refine WC.ret fun a_ ha_ => ?_
        exact hQ (cv_ret2 rfl (.agg rfl ty_agg_25_4 k86.range rfl) (.tmp rfl) (by rw [sync_well (by first | assumption | (simp_all; done) | omega) (by first | assumption | (simp_all; done) | omega), hv, settle_end (by omega)]; exact ⟨_, _, rfl, (k53.notin hL0 l60), (RdF.nil (by decide))⟩) hB ha_)

theorem encS_at {z : List Int} {i : Nat} {x : Int} (h : z[i]? = some x) : (encS z)[i]? = some (.int .u8 x) := by simp [encS, h]
theorem torn_step {old z : List Int} {i : Nat} {x : Int} (ho : old.length = 128) (hz : z.length = 128) (h : z[i]? = some x) (hi : i < 128) : (encS (tornS old z i)).take i ++ ([.int .u8 x] ++ (encS (tornS old z i)).drop (i + 1)) = encS (tornS old z (i + 1)) := by
  obtain ⟨hl, he⟩ := List.getElem?_eq_some_iff.1 h
  have e1 : (tornS old z i).take i = z.take i := by
    unfold tornS
    rw [List.take_append_of_le_length (by rw [List.length_take]; omega), List.take_of_length_le (by rw [List.length_take]; omega)]
  have e2 : (tornS old z i).drop (i + 1) = old.drop (i + 1) := by
    unfold tornS
    rw [List.drop_append, List.drop_eq_nil_of_le (by rw [List.length_take]; omega), List.nil_append, List.length_take, List.drop_drop]
    congr 1
    omega
  have e3 : tornS old z (i + 1) = z.take i ++ ([x] ++ old.drop (i + 1)) := by
    unfold tornS
    rw [List.take_succ_eq_append_getElem hl, he, List.append_assoc]
  unfold encS
  rw [← List.map_take, ← List.map_drop, e1, e2, e3]
  simp
set_option maxHeartbeats 1000000 in
theorem rtorn_v (z old : List Int) (n : Nat) (w : World) (L : List Nat) (hL : LL L w)   (hz : z.length = 128) (ho : old.length = 128) (hn : n ≤ 128) : CV Try.prog 37 [.agg (encS z).toArray, .agg (encS old).toArray, .int .i64 (n : Int)] w fun v W => v = .agg (encS (tornS old z n)).toArray := by
  refine cv_enter (N := 23) (f := [(0, .agg (encS z).toArray), (1, .agg (encS old).toArray), (2, .int .i64 (n : Int))]) Try.func37 rfl rfl rfl rfl fun Q hQ hE => ?_
  have hB := Below.refl w.heap.size w
  refine WC.seq fun K1 hK1 => ?_
  refine WC.region ?_
  refine WL.get (dx_box (cs := (encS z)) rfl rfl rfl) rfl rfl ?_
  rintro _ W2 ⟨rfl, k3, b4, z5⟩
  have l6 := hB.size
  replace hB := below_then hB b4
  replace hL := LL.more hL z5
  refine WL.get (dx_box (cs := (encS old)) rfl rfl rfl) rfl rfl ?_
  rintro _ W7 ⟨rfl, k8, b9, z10⟩
  have n11 : w.heap.size ≠ W2.heap.size := Nat.ne_of_lt k3.lt
  have l12 := hB.size
  replace k3 := k3.below b9
  replace hB := below_then hB b9
  replace hL := LL.more hL z10
  refine WL.get (dx_alloc (cs := encS z0) rfl ty_zero_27 cells_z0) rfl rfl ?_
  rintro _ W13 ⟨rfl, k14, b15, z16⟩
  have n17 : w.heap.size ≠ W7.heap.size := Nat.ne_of_lt k3.lt
  have n18 : W2.heap.size ≠ W7.heap.size := Nat.ne_of_lt k8.lt
  have l19 := hB.size
  replace k3 := k3.below b15
  replace k8 := k8.below b15
  replace hB := below_then hB b15
  replace hL := LL.more hL z16
  refine WL.nil ?_
  refine hK1 ?_
  refine WC.seq fun K20 hK20 => ?_
  refine WC.seq fun K21 hK21 => ?_
  refine WC.region ?_
  refine WL.val (dx_assign rfl rfl) rfl rfl ?_
  refine WL.nil ?_
  refine hK21 ?_
  refine WC.block ?_
  refine WC.loop (fun (i : Nat) => [(2, .int .i64 (n : Int)), (3, .pointer (some ⟨w.heap.size, 0, none⟩)), (4, .pointer (some ⟨W2.heap.size, 0, none⟩)), (6, .pointer (some ⟨W7.heap.size, 0, none⟩)), (7, .int .i64 (i : Int))]) (fun (i : Nat) W => i ≤ n ∧ Below w.heap.size w W ∧ LL (W7.heap.size :: W2.heap.size :: w.heap.size :: L) W ∧ Blk W w.heap.size (encS z) ∧ Blk W W2.heap.size (encS (tornS old z i)) ∧ Blk W W7.heap.size (encS z0)) (fun (i : Nat) => n - i) 0 (by repeat first | exact trivial | exact And.intro rfl trivial | refine And.intro rfl ?_ | refine And.intro (congrArg (fun z : Int => some (Value.int .i64 z)) (by omega)) ?_) ⟨Nat.zero_le _, hB, hL, k3, k8, k14⟩ ?_
  clear k3 k8 k14 hB hL
  rintro K22 i W23 ⟨hi, hB, hL, k3, k8, k14⟩ hK22
  refine WC.seq fun K24 hK24 => ?_
  refine WC.seq fun K25 hK25 => ?_
  refine WC.region ?_
  refine WL.val (dx_move rfl rfl) rfl rfl ?_
  refine WL.val (dx_move rfl rfl) rfl rfl ?_
  refine WL.val (dx_lss rfl rfl rfl) rfl rfl ?_
  refine WL.val (dx_move rfl rfl) rfl rfl ?_
  refine WL.split 11 rfl (fun g26 => ?_) (fun g26 => ?_)
  ·
    replace g26 := of_decide_eq_true g26
    refine WL.val (dx_move rfl rfl) rfl rfl ?_
    refine WL.val (dx_lss rfl rfl rfl) rfl rfl ?_
    refine WL.val (dx_pick rfl rfl rfl) rfl rfl ?_
    refine WL.nil ?_
    refine hK25 ?_
    refine WC.cond rfl (fun c27 => ?_) (fun c27 => ?_)
    ·
      replace c27 := of_decide_eq_true c27
      refine WC.skip ?_
      refine hK24 ?_
      refine WC.seq fun K28 hK28 => ?_
      refine WC.block ?_
      refine WC.region ?_
      refine WL.val (dx_move rfl rfl) rfl rfl ?_
      refine WL.val (dx_move rfl rfl) rfl rfl ?_
      refine WL.val (dx_idxA (o1 := i) rfl Try.underlying27 ty_size_5_1 rfl rfl (by omega) (by simp)) rfl rfl ?_
      obtain ⟨x29, e30⟩ : ∃ x, z[i]? = some x := ⟨_, List.getElem?_eq_getElem (by omega)⟩
      refine WL.val (dx_load rfl ty_one_5 rfl (k3.cell (k := i) (encS_at e30))) rfl rfl ?_
      refine WL.val (dx_idxA (o1 := i) rfl Try.underlying27 ty_size_5_1 rfl rfl (by omega) (by simp)) rfl rfl ?_
      refine WL.do (dx_store (cs' := encS (tornS old z (i + 1))) (vs := [.int .u8 x29]) rfl ty_size_5_1 rfl rfl rfl (oc_cons rfl oc_nil) k8 rfl (by rw [encS_len, tornS_len ho hz (by omega)]; omega) (torn_step ho hz e30 (by omega))) rfl ?_
      rintro _ W31 ⟨k33, o32⟩
      replace k3 := k3.other o32 n11
      replace k14 := k14.other o32 n18.symm
      clear k8
      replace hB := o32.below hB l12
      replace hL := LL.only hL o32
      refine WL.nil ?_
      refine hK28 ?_
      refine WC.region ?_
      refine WL.val (dx_move rfl rfl) rfl rfl ?_
      refine WL.val (dx_add (r := (i : Int) + 1) rfl rfl rfl (wrap64_id (by omega))) rfl rfl ?_
      refine WL.val (dx_assign rfl rfl) rfl rfl ?_
      refine WL.nil ?_
      exact hK22 (i + 1) ⟨(by omega), hB, hL, k3, k33, k14⟩ (by omega) (by repeat first | exact trivial | exact And.intro rfl trivial | refine And.intro rfl ?_ | refine And.intro (congrArg (fun z : Int => some (Value.int .i64 z)) (by omega)) ?_)
    ·
      replace c27 := of_decide_eq_false c27
      refine WC.exit ?_
      refine hK20 ?_
      refine WC.seq fun K34 hK34 => ?_
      refine WC.region ?_
      refine WL.val (dx_loadN rfl ty_agg_27_128 rfl k8.range (by rw [encS_len]; exact (tornS_len ho hz (by omega)))) rfl rfl ?_
      refine WL.do (dx_storeW (vs := (encS (tornS old z i))) rfl ty_size_27_128 rfl rfl rfl (oc_S (tornS old z i)) k14 (by rw [encS_len]; exact (tornS_len ho hz (by omega))) (by rw [encS_len]; exact z0_len)) rfl ?_
      rintro _ W35 ⟨k37, o36⟩
      replace k3 := k3.other o36 n17
      replace k8 := k8.other o36 n18
      clear k14
      replace hB := o36.below hB l19
      replace hL := LL.only hL o36
      refine WL.nil ?_
      refine hK34 ?_
      refine WC.ret fun a_ ha_ => ?_
      exact hQ (cv_ret1 rfl (.agg rfl ty_agg_27_128 k37.range (by rw [encS_len]; exact (tornS_len ho hz (by omega)))) (by rw [show n = i by omega]) hB ha_)
  ·
    replace g26 := of_decide_eq_false g26
    refine WL.off rfl rfl rfl ?_
    refine WL.off rfl rfl rfl ?_
    refine WL.val (dx_pick rfl rfl rfl) rfl rfl ?_
    refine WL.nil ?_
    refine hK25 ?_
    refine WC.condF rfl ?_
    refine WC.exit ?_
    refine hK20 ?_
    refine WC.seq fun K38 hK38 => ?_
    refine WC.region ?_
    refine WL.val (dx_loadN rfl ty_agg_27_128 rfl k8.range (by rw [encS_len]; exact (tornS_len ho hz (by omega)))) rfl rfl ?_
    refine WL.do (dx_storeW (vs := (encS (tornS old z i))) rfl ty_size_27_128 rfl rfl rfl (oc_S (tornS old z i)) k14 (by rw [encS_len]; exact (tornS_len ho hz (by omega))) (by rw [encS_len]; exact z0_len)) rfl ?_
    rintro _ W39 ⟨k41, o40⟩
    replace k3 := k3.other o40 n17
    replace k8 := k8.other o40 n18
    clear k14
    replace hB := o40.below hB l19
    replace hL := LL.only hL o40
    refine WL.nil ?_
    refine hK38 ?_
    refine WC.ret fun a_ ha_ => ?_
    exact hQ (cv_ret1 rfl (.agg rfl ty_agg_27_128 k41.range (by rw [encS_len]; exact (tornS_len ho hz (by omega)))) (by rw [show n = i by omega]) hB ha_)

end Go.Proofs.Ythefddclefimoaa

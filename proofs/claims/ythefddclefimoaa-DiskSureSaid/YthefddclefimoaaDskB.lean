/- Package disk: Read, Sync, Fall; the reference. -/
import Derived.Test.YthefddclefimoaaDskA
namespace Go.Proofs.Ythefddclefimoaa
open Go.RowKit
set_option linter.unusedVariables false
set_option linter.unusedSimpArgs false
set_option maxRecDepth 8000

theorem lookN_here {l : List (Int × List Int)} {a : Int} {n : Nat} {p : Int × List Int} (h : l[n]? = some p) (ha : p.1 = a) : lookN l a (n + 1) = some p.2 := by simp [lookN, h, ha]
theorem lookN_next {l : List (Int × List Int)} {a : Int} {n : Nat} {p : Int × List Int} (h : l[n]? = some p) (ha : ¬ p.1 = a) : lookN l a (n + 1) = lookN l a n := by simp [lookN, h, ha]
theorem builtS0 : Try.prog.built 27 [] = some (encS z0).toArray := by kernel_rfl
set_option maxHeartbeats 1000000 in
theorem read_v (secs : List (List Int)) (loose : List (Int × List Int)) (fuse : Int) (down : Bool) (s1 s2 : Value) (a : Int) (w : World) (L : List Nat) (hL : LL L w) (h1 : RdF 128 L w s1 (secs.map encS)) (h2 : RdF 129 L w s2 (loose.map encW)) : CV Try.prog 13 [.agg #[s1, s2, .int .i64 fuse, .bool down], .int .i64 a] w fun v W => v = .tuple #[.agg (encS (readS secs loose down a).1).toArray, .int .i64 (readS secs loose down a).2] := by
  refine cv_enter (N := 47) (f := [(0, .agg #[s1, s2, .int .i64 fuse, .bool down]), (1, .int .i64 a)]) Try.func13 rfl rfl rfl rfl fun Q hQ hE => ?_
  have hB := Below.refl w.heap.size w
  have h1m : secs.length ≤ maxLen := by have := h1.len; rwa [List.length_map] at this
  unfold maxLen at h1m
  have h2m : loose.length ≤ maxLen := by have := h2.len; rwa [List.length_map] at this
  unfold maxLen at h2m
  refine WC.seq fun K1 hK1 => ?_
  refine WC.region ?_
  refine WL.get (dx_box rfl rfl rfl) rfl rfl ?_
  rintro _ W2 ⟨rfl, k3, b4, z5⟩
  have l6 := hB.size
  replace h1 := h1.more b4 (Nat.le_refl _)
  replace h2 := h2.more b4 (Nat.le_refl _)
  replace hB := below_then hB b4
  replace hL := LL.more hL z5
  refine WL.get (dx_alloc (cs := encS z0) rfl ty_zero_27 cells_z0) rfl rfl ?_
  rintro _ W7 ⟨rfl, k8, b9, z10⟩
  have n11 : w.heap.size ≠ W2.heap.size := Nat.ne_of_lt k3.lt
  have l12 := hB.size
  replace h1 := h1.more b9 (Nat.le_refl _)
  replace h2 := h2.more b9 (Nat.le_refl _)
  replace k3 := k3.below b9
  replace hB := below_then hB b9
  replace hL := LL.more hL z10
  refine WL.val (dx_assign rfl rfl) rfl rfl ?_
  refine WL.nil ?_
  refine hK1 ?_
  refine WC.seq fun K13 hK13 => ?_
  refine WC.seq fun K14 hK14 => ?_
  refine WC.region ?_
  refine WL.val (dx_loadN rfl ty_agg_25_4 rfl k3.range rfl) rfl rfl ?_
  refine WL.get (dx_cv rfl Try.func16 rfl rfl rfl (right_v _ _ _ _ _ _ W7 [] (LL.nil _) (h1.less (by simp)) (h2.less (by simp)))) rfl rfl ?_
  rintro _ W16 ⟨rfl, b15⟩
  replace h1 := h1.below b15
  replace h2 := h2.below b15
  replace k3 := k3.below b15
  replace k8 := k8.below b15
  replace hB := below_then hB b15
  replace hL := LL.below hL b15
  refine WL.val (dx_not rfl rfl) rfl rfl ?_
  refine WL.val (dx_move rfl rfl) rfl rfl ?_
  refine WL.split 10 rfl (fun g17 => ?_) (fun g17 => ?_)
  ·
    replace g17 := bnot_t g17
    refine WL.off rfl rfl rfl ?_
    refine WL.off rfl rfl rfl ?_
    refine WL.off rfl rfl rfl ?_
    refine WL.off rfl rfl rfl ?_
    refine WL.val (dx_pick rfl rfl rfl) rfl rfl ?_
    refine WL.nil ?_
    refine hK14 ?_
    refine WC.condT rfl ?_
    refine WC.seq fun K18 hK18 => ?_
    refine WC.region ?_
    refine WL.val (dx_build rfl rfl builtS0) rfl rfl ?_
    refine WL.do (dx_storeW (vs := (encS z0)) rfl ty_size_27_128 rfl rfl rfl (oc_S z0) k8 (by rw [encS_len]; exact z0_len) (by rw [encS_len]; exact z0_len)) rfl ?_
    rintro _ W19 ⟨k21, o20⟩
    replace k3 := k3.other o20 n11
    clear k8
    replace h1 := h1.only o20 (.head _)
    replace h2 := h2.only o20 (.head _)
    replace hB := o20.below hB l12
    replace hL := LL.only hL o20
    refine WL.val (dx_assign rfl rfl) rfl rfl ?_
    refine WL.nil ?_
    refine hK18 ?_
    refine WC.ret fun a_ ha_ => ?_
    exact hQ (cv_ret2 rfl (.agg rfl ty_agg_27_128 k21.range (by rw [encS_len]; exact z0_len)) (.tmp rfl) (by rw [show readS secs loose down a = (z0, 1) from (by simp [readS, g17])]) hB ha_)
  ·
    replace g17 := bnot_f g17
    have hr := right_of g17; obtain ⟨hne, hsm, hlm, hrt⟩ := hr
    refine WL.val (dx_loadN rfl ty_agg_25_4 rfl k3.range rfl) rfl rfl ?_
    refine WL.val (dx_move rfl rfl) rfl rfl ?_
    refine WL.get (dx_cv rfl Try.func27 rfl rfl rfl (has_v _ _ _ _ _ _ a W16 [] (LL.nil _) (h1.less (by simp)) (h2.less (by simp)))) rfl rfl ?_
    rintro _ W23 ⟨rfl, b22⟩
    replace h1 := h1.below b22
    replace h2 := h2.below b22
    replace k3 := k3.below b22
    replace k8 := k8.below b22
    replace hB := below_then hB b22
    replace hL := LL.below hL b22
    refine WL.val (dx_not rfl rfl) rfl rfl ?_
    refine WL.val (dx_pick rfl rfl rfl) rfl rfl ?_
    refine WL.nil ?_
    refine hK14 ?_
    refine WC.cond rfl (fun c24 => ?_) (fun c24 => ?_)
    ·
      replace c24 := bnot_t c24
      refine WC.seq fun K25 hK25 => ?_
      refine WC.region ?_
      refine WL.val (dx_build rfl rfl builtS0) rfl rfl ?_
      refine WL.do (dx_storeW (vs := (encS z0)) rfl ty_size_27_128 rfl rfl rfl (oc_S z0) k8 (by rw [encS_len]; exact z0_len) (by rw [encS_len]; exact z0_len)) rfl ?_
      rintro _ W26 ⟨k28, o27⟩
      replace k3 := k3.other o27 n11
      clear k8
      replace h1 := h1.only o27 (.head _)
      replace h2 := h2.only o27 (.head _)
      replace hB := o27.below hB l12
      replace hL := LL.only hL o27
      refine WL.val (dx_assign rfl rfl) rfl rfl ?_
      refine WL.nil ?_
      refine hK25 ?_
      refine WC.ret fun a_ ha_ => ?_
      exact hQ (cv_ret2 rfl (.agg rfl ty_agg_27_128 k28.range (by rw [encS_len]; exact z0_len)) (.tmp rfl) (by rw [show readS secs loose down a = (z0, 1) from (by simp [readS, g17, c24])]) hB ha_)
    ·
      replace c24 := bnot_f c24
      have hh := hasB_t c24; obtain ⟨hb1, hb2⟩ := hh
      refine WC.skip ?_
      refine hK13 ?_
      refine WC.seq fun K29 hK29 => ?_
      refine WC.seq fun K30 hK30 => ?_
      refine WC.region ?_
      refine WL.val (dx_fld (o1 := 3) rfl ty_fld_25_3_3 rfl rfl) rfl rfl ?_
      refine WL.val (dx_load rfl ty_one_4 rfl (k3.cell (k := 3) rfl)) rfl rfl ?_
      refine WL.nil ?_
      refine hK30 ?_
      refine WC.cond rfl (fun c31 => ?_) (fun c31 => ?_)
      ·
        refine WC.seq fun K32 hK32 => ?_
        refine WC.region ?_
        refine WL.val (dx_build rfl rfl builtS0) rfl rfl ?_
        refine WL.do (dx_storeW (vs := (encS z0)) rfl ty_size_27_128 rfl rfl rfl (oc_S z0) k8 (by rw [encS_len]; exact z0_len) (by rw [encS_len]; exact z0_len)) rfl ?_
        rintro _ W33 ⟨k35, o34⟩
        replace k3 := k3.other o34 n11
        clear k8
        replace h1 := h1.only o34 (.head _)
        replace h2 := h2.only o34 (.head _)
        replace hB := o34.below hB l12
        replace hL := LL.only hL o34
        refine WL.val (dx_assign rfl rfl) rfl rfl ?_
        refine WL.nil ?_
        refine hK32 ?_
        refine WC.ret fun a_ ha_ => ?_
        exact hQ (cv_ret2 rfl (.agg rfl ty_agg_27_128 k35.range (by rw [encS_len]; exact z0_len)) (.tmp rfl) (by rw [show readS secs loose down a = (z0, 9) from (by simp [readS, g17, c24, c31])]) hB ha_)
      ·
        replace c31 := bvar_f c31
        refine WC.skip ?_
        refine hK29 ?_
        refine WC.seq fun K36 hK36 => ?_
        refine WC.seq fun K37 hK37 => ?_
        refine WC.region ?_
        refine WL.val (dx_fld (o1 := 1) rfl ty_fld_25_1_1 rfl rfl) rfl rfl ?_
        refine WL.val (dx_load rfl ty_one_23 rfl (k3.cell (k := 1) rfl)) rfl rfl ?_
        refine WL.val (dx_lenM rfl ty_slice_23 rfl h2) rfl rfl ?_
        refine WL.val (dx_sub (r := (loose.length : Int) - 1) rfl rfl rfl (wrap64_id (by omega))) rfl rfl ?_
        refine WL.val (dx_assign rfl rfl) rfl rfl ?_
        refine WL.nil ?_
        refine hK37 ?_
        refine WC.block ?_
        refine WC.loop (fun (n : Nat) => [(1, .int .i64 a), (2, .pointer (some ⟨w.heap.size, 0, none⟩)), (4, .pointer (some ⟨W2.heap.size, 0, none⟩)), (6, .int .i64 ((n : Int) - 1))]) (fun (n : Nat) W => n ≤ loose.length ∧ lookN loose a loose.length = lookN loose a n ∧ Below w.heap.size w W ∧ LL (W2.heap.size :: w.heap.size :: L) W ∧ RdF 128 (W2.heap.size :: w.heap.size :: L) W s1 (secs.map encS) ∧ RdF 129 (W2.heap.size :: w.heap.size :: L) W s2 (loose.map encW) ∧ Blk W w.heap.size [s1, s2, .int .i64 fuse, .bool down] ∧ Blk W W2.heap.size (encS z0)) (fun (n : Nat) => n) loose.length (by repeat first | exact trivial | exact And.intro rfl trivial | refine And.intro rfl ?_ | refine And.intro (congrArg (fun z : Int => some (Value.int .i64 z)) (by omega)) ?_) ⟨Nat.le_refl _, rfl, hB, hL, h1, h2, k3, k8⟩ ?_
        clear h1 h2 k3 k8 hB hL
        rintro K38 n W39 ⟨hi, hv, hB, hL, h1, h2, k3, k8⟩ hK38
        refine WC.seq fun K40 hK40 => ?_
        refine WC.seq fun K41 hK41 => ?_
        refine WC.region ?_
        refine WL.val (dx_move rfl rfl) rfl rfl ?_
        refine WL.val (dx_geq rfl rfl rfl) rfl rfl ?_
        refine WL.nil ?_
        refine hK41 ?_
        refine WC.cond rfl (fun c42 => ?_) (fun c42 => ?_)
        ·
          replace c42 := of_decide_eq_true c42
          refine WC.skip ?_
          refine hK40 ?_
          refine WC.seq fun K43 hK43 => ?_
          refine WC.block ?_
          refine WC.seq fun K44 hK44 => ?_
          refine WC.region ?_
          refine WL.val (dx_fld (o1 := 1) rfl ty_fld_25_1_1 rfl rfl) rfl rfl ?_
          refine WL.val (dx_load rfl ty_one_23 rfl (k3.cell (k := 1) rfl)) rfl rfl ?_
          refine WL.val (dx_move rfl rfl) rfl rfl ?_
          obtain ⟨r45, e46⟩ : ∃ x, loose[(n - 1)]? = some x := ⟨_, List.getElem?_eq_getElem (by omega)⟩
          have Lr45 := rdf_W h2 e46
          refine WL.get (dx_idxF (n - 1) rfl ty_slice_23 rfl rfl h2 (by omega) (at_map e46)) rfl rfl ?_
          rintro u47 _ ⟨rfl, p48⟩
          refine WL.get (dx_fldP 1 rfl ty_fld_59_0_0 rfl p48 (cs' := [.int .i64 r45.1]) (by simp [encW, List.take_of_length_le, encS_len, Lr45]) (Nat.succ_pos _)) rfl rfl ?_
          rintro u49 _ ⟨rfl, p50⟩
          refine WL.val (dx_loadP rfl ty_one_3 rfl p50) rfl rfl ?_
          refine WL.val (dx_move rfl rfl) rfl rfl ?_
          refine WL.val (dx_eql rfl rfl rfl) rfl rfl ?_
          refine WL.nil ?_
          refine hK44 ?_
          refine WC.cond rfl (fun c51 => ?_) (fun c51 => ?_)
          ·
            replace c51 := of_decide_eq_true c51
            refine WC.seq fun K52 hK52 => ?_
            refine WC.region ?_
            refine WL.val (dx_fld (o1 := 1) rfl ty_fld_25_1_1 rfl rfl) rfl rfl ?_
            refine WL.val (dx_load rfl ty_one_23 rfl (k3.cell (k := 1) rfl)) rfl rfl ?_
            refine WL.val (dx_move rfl rfl) rfl rfl ?_
            refine WL.get (dx_idxF (n - 1) rfl ty_slice_23 rfl rfl h2 (by omega) (at_map e46)) rfl rfl ?_
            rintro u53 _ ⟨rfl, p54⟩
            refine WL.get (dx_fldP 128 rfl ty_fld_59_1_1 rfl p54 (cs' := (encS r45.2)) (by simp [encW, List.take_of_length_le, encS_len, Lr45]) (by simp [encW, encS_len, Lr45])) rfl rfl ?_
            rintro u55 _ ⟨rfl, p56⟩
            refine WL.val (dx_loadPN rfl ty_agg_27_128 rfl p56 (by rw [encS_len]; exact Lr45)) rfl rfl ?_
            refine WL.do (dx_storeW (vs := (encS r45.2)) rfl ty_size_27_128 rfl rfl rfl (oc_S r45.2) k8 (by rw [encS_len]; exact Lr45) (by rw [encS_len]; exact z0_len)) rfl ?_
            rintro _ W57 ⟨k59, o58⟩
            replace k3 := k3.other o58 n11
            clear k8
            replace h1 := h1.only o58 (.head _)
            replace h2 := h2.only o58 (.head _)
            replace p54 := p54.only o58 (.head _)
            replace p56 := p56.only o58 (.head _)
            replace hB := o58.below hB l12
            replace hL := LL.only hL o58
            refine WL.val (dx_assign rfl rfl) rfl rfl ?_
            refine WL.nil ?_
            refine hK52 ?_
            refine WC.ret fun a_ ha_ => ?_
            exact hQ (cv_ret2 rfl (.agg rfl ty_agg_27_128 k59.range (by rw [encS_len]; exact Lr45)) (.tmp rfl) (by rw [show readS secs loose down a = (r45.2, 0) from (by unfold readS; rw [hv, show n = (n - 1) + 1 by omega, lookN_here e46 c51]; simp [g17, c24, c31, c42, c51])]) hB ha_)
          ·
            replace c51 := of_decide_eq_false c51
            refine WC.skip ?_
            refine hK43 ?_
            refine WC.region ?_
            refine WL.val (dx_move rfl rfl) rfl rfl ?_
            refine WL.val (dx_sub (r := ((n : Int) - 1) - 1) rfl rfl rfl (wrap64_id (by omega))) rfl rfl ?_
            refine WL.val (dx_assign rfl rfl) rfl rfl ?_
            refine WL.nil ?_
            exact hK38 (n - 1) ⟨(by omega), (by rw [hv, show n = (n - 1) + 1 by omega]; exact lookN_next e46 c51), hB, hL, h1, h2, k3, k8⟩ (by omega) (by repeat first | exact trivial | exact And.intro rfl trivial | refine And.intro rfl ?_ | refine And.intro (congrArg (fun z : Int => some (Value.int .i64 z)) (by omega)) ?_)
        ·
          replace c42 := of_decide_eq_false c42
          refine WC.exit ?_
          refine hK36 ?_
          refine WC.seq fun K60 hK60 => ?_
          refine WC.region ?_
          refine WL.val (dx_fld (o1 := 0) rfl ty_fld_25_0_0 rfl rfl) rfl rfl ?_
          refine WL.val (dx_load rfl ty_one_22 rfl (k3.cell (k := 0) rfl)) rfl rfl ?_
          refine WL.val (dx_move rfl rfl) rfl rfl ?_
          obtain ⟨r61, e62⟩ : ∃ x, secs[a.toNat]? = some x := ⟨_, List.getElem?_eq_getElem (by omega)⟩
          have Lr61 := rdf_S h1 e62
          refine WL.get (dx_idxF a.toNat rfl ty_slice_22 rfl rfl h1 (by omega) (at_map e62)) rfl rfl ?_
          rintro u63 _ ⟨rfl, p64⟩
          refine WL.val (dx_loadPN rfl ty_agg_27_128 rfl p64 (by rw [encS_len]; exact Lr61)) rfl rfl ?_
          refine WL.do (dx_storeW (vs := (encS r61)) rfl ty_size_27_128 rfl rfl rfl (oc_S r61) k8 (by rw [encS_len]; exact Lr61) (by rw [encS_len]; exact z0_len)) rfl ?_
          rintro _ W65 ⟨k67, o66⟩
          replace k3 := k3.other o66 n11
          clear k8
          replace h1 := h1.only o66 (.head _)
          replace h2 := h2.only o66 (.head _)
          replace p64 := p64.only o66 (.head _)
          replace hB := o66.below hB l12
          replace hL := LL.only hL o66
          refine WL.val (dx_assign rfl rfl) rfl rfl ?_
          refine WL.nil ?_
          refine hK60 ?_
          refine WC.ret fun a_ ha_ => ?_
          exact hQ (cv_ret2 rfl (.agg rfl ty_agg_27_128 k67.range (by rw [encS_len]; exact Lr61)) (.tmp rfl) (by rw [show readS secs loose down a = (r61, 0) from (by unfold readS; rw [hv, show n = 0 by omega]; simp [lookN, e62, g17, c24, c31, c42])]) hB ha_)

set_option maxHeartbeats 1000000 in
theorem sync_v (secs : List (List Int)) (loose : List (Int × List Int)) (fuse : Int) (down : Bool) (s1 s2 : Value) (w : World) (L : List Nat) (hL : LL L w) (h1 : RdF 128 L w s1 (secs.map encS)) (h2 : RdF 129 L w s2 (loose.map encW))  (hL0 : LL L w) (hfu : -9223372036854775808 ≤ fuse ∧ fuse ≤ 9223372036854775807) : CV Try.prog 20 [.agg #[s1, s2, .int .i64 fuse, .bool down]] w fun v W => ∃ s1' s2', v = .tuple #[.agg #[s1', s2', .int .i64 (syncS secs loose fuse down).fuse, .bool (syncS secs loose fuse down).down], .int .i64 (syncS secs loose fuse down).err] ∧ RdF 128 L W s1' ((syncS secs loose fuse down).secs.map encS) ∧ RdF 129 L W s2' ((syncS secs loose fuse down).loose.map encW) := by
  refine cv_enter (N := 23) (f := [(0, .agg #[s1, s2, .int .i64 fuse, .bool down])]) Try.func20 rfl rfl rfl rfl fun Q hQ hE => ?_
  have hB := Below.refl w.heap.size w
  have h1m : secs.length ≤ maxLen := by have := h1.len; rwa [List.length_map] at this
  unfold maxLen at h1m
  have h2m : loose.length ≤ maxLen := by have := h2.len; rwa [List.length_map] at this
  unfold maxLen at h2m
  refine WC.seq fun K1 hK1 => ?_
  refine WC.region ?_
  refine WL.get (dx_box rfl rfl rfl) rfl rfl ?_
  rintro _ W2 ⟨rfl, k3, b4, z5⟩
  have l6 := hB.size
  replace h1 := h1.more b4 (Nat.le_refl _)
  replace h2 := h2.more b4 (Nat.le_refl _)
  replace hB := below_then hB b4
  replace hL := LL.more hL z5
  refine WL.get (dx_alloc rfl ty_zero_25 rfl) rfl rfl ?_
  rintro _ W7 ⟨rfl, k8, b9, z10⟩
  have n11 : w.heap.size ≠ W2.heap.size := Nat.ne_of_lt k3.lt
  have l12 := hB.size
  replace h1 := h1.more b9 (Nat.le_refl _)
  replace h2 := h2.more b9 (Nat.le_refl _)
  replace k3 := k3.below b9
  replace hB := below_then hB b9
  replace hL := LL.more hL z10
  refine WL.val (dx_assign rfl rfl) rfl rfl ?_
  refine WL.nil ?_
  refine hK1 ?_
  refine WC.seq fun K13 hK13 => ?_
  refine WC.seq fun K14 hK14 => ?_
  refine WC.region ?_
  refine WL.val (dx_loadN rfl ty_agg_25_4 rfl k3.range rfl) rfl rfl ?_
  refine WL.get (dx_cv rfl Try.func16 rfl rfl rfl (right_v _ _ _ _ _ _ W7 [] (LL.nil _) (h1.less (by simp)) (h2.less (by simp)))) rfl rfl ?_
  rintro _ W16 ⟨rfl, b15⟩
  replace h1 := h1.below b15
  replace h2 := h2.below b15
  replace k3 := k3.below b15
  replace k8 := k8.below b15
  replace hB := below_then hB b15
  replace hL := LL.below hL b15
  refine WL.val (dx_not rfl rfl) rfl rfl ?_
  refine WL.nil ?_
  refine hK14 ?_
  refine WC.cond rfl (fun c17 => ?_) (fun c17 => ?_)
  ·
    replace c17 := bnot_t c17
    refine WC.seq fun K18 hK18 => ?_
    refine WC.region ?_
    refine WL.val (dx_loadN rfl ty_agg_25_4 rfl k3.range rfl) rfl rfl ?_
    refine WL.do (dx_store (cs' := [s1, s2, .int .i64 fuse, .bool down]) (vs := [s1, s2, .int .i64 fuse, .bool down]) rfl ty_size_25_4 rfl rfl rfl (oc_cons h1.one (oc_cons h2.one (oc_cons rfl (oc_cons rfl oc_nil)))) k8 rfl (Nat.le_of_ble_eq_true rfl) rfl) rfl ?_
    rintro _ W19 ⟨k21, o20⟩
    replace k3 := k3.other o20 n11
    clear k8
    replace h1 := h1.only o20 (.head _)
    replace h2 := h2.only o20 (.head _)
    replace hB := o20.below hB l12
    replace hL := LL.only hL o20
    refine WL.val (dx_assign rfl rfl) rfl rfl ?_
    refine WL.nil ?_
    refine hK18 ?_
    refine WC.ret fun a_ ha_ => ?_
    exact hQ (cv_ret2 rfl (.agg rfl ty_agg_25_4 k21.range rfl) (.tmp rfl) (by rw [show syncS secs loose fuse down = ⟨secs, loose, fuse, down, 1⟩ from (by first | (unfold syncS; generalize burnS fuse down = bb at *; simp [syncS, c17]; done) | (simp [syncS, c17]; done))]; exact ⟨_, _, rfl, (h1.less (fun x hx => (.tail _ (.tail _ hx)))), (h2.less (fun x hx => (.tail _ (.tail _ hx))))⟩) hB ha_)
  ·
    replace c17 := bnot_f c17
    have hr := right_of c17; obtain ⟨hne, hsm, hlm, hrt⟩ := hr
    refine WC.skip ?_
    refine hK13 ?_
    refine WC.seq fun K22 hK22 => ?_
    refine WC.seq fun K23 hK23 => ?_
    refine WC.region ?_
    refine WL.val (dx_fld (o1 := 3) rfl ty_fld_25_3_3 rfl rfl) rfl rfl ?_
    refine WL.val (dx_load rfl ty_one_4 rfl (k3.cell (k := 3) rfl)) rfl rfl ?_
    refine WL.nil ?_
    refine hK23 ?_
    refine WC.cond rfl (fun c24 => ?_) (fun c24 => ?_)
    ·
      refine WC.seq fun K25 hK25 => ?_
      refine WC.region ?_
      refine WL.val (dx_loadN rfl ty_agg_25_4 rfl k3.range rfl) rfl rfl ?_
      refine WL.do (dx_store (cs' := [s1, s2, .int .i64 fuse, .bool down]) (vs := [s1, s2, .int .i64 fuse, .bool down]) rfl ty_size_25_4 rfl rfl rfl (oc_cons h1.one (oc_cons h2.one (oc_cons rfl (oc_cons rfl oc_nil)))) k8 rfl (Nat.le_of_ble_eq_true rfl) rfl) rfl ?_
      rintro _ W26 ⟨k28, o27⟩
      replace k3 := k3.other o27 n11
      clear k8
      replace h1 := h1.only o27 (.head _)
      replace h2 := h2.only o27 (.head _)
      replace hB := o27.below hB l12
      replace hL := LL.only hL o27
      refine WL.val (dx_assign rfl rfl) rfl rfl ?_
      refine WL.nil ?_
      refine hK25 ?_
      refine WC.ret fun a_ ha_ => ?_
      exact hQ (cv_ret2 rfl (.agg rfl ty_agg_25_4 k28.range rfl) (.tmp rfl) (by rw [show syncS secs loose fuse down = ⟨secs, loose, fuse, down, 9⟩ from (by first | (unfold syncS; generalize burnS fuse down = bb at *; simp [syncS, c17, c24]; done) | (simp [syncS, c17, c24]; done))]; exact ⟨_, _, rfl, (h1.less (fun x hx => (.tail _ (.tail _ hx)))), (h2.less (fun x hx => (.tail _ (.tail _ hx))))⟩) hB ha_)
    ·
      replace c24 := bvar_f c24
      refine WC.skip ?_
      refine hK22 ?_
      refine WC.seq fun K29 hK29 => ?_
      refine WC.region ?_
      refine WL.val (dx_loadN rfl ty_agg_25_4 rfl k3.range rfl) rfl rfl ?_
      refine WL.get (dx_cv rfl Try.func28 rfl rfl rfl (burn_v secs loose fuse down s1 s2 W16 [] (LL.nil _) (h1.less (by simp)) (h2.less (by simp)) hfu)) rfl rfl ?_
      rintro _ W31 ⟨rfl, b30⟩
      replace h1 := h1.below b30
      replace h2 := h2.below b30
      replace k3 := k3.below b30
      replace k8 := k8.below b30
      replace hB := below_then hB b30
      replace hL := LL.below hL b30
      refine WL.val (dx_move rfl rfl) rfl rfl ?_
      refine WL.val (dx_extract rfl rfl rfl) rfl rfl ?_
      refine WL.val (dx_extract rfl rfl rfl) rfl rfl ?_
      refine WL.do (dx_store (cs' := [s1, s2, .int .i64 ((burnS fuse down).1), .bool ((burnS fuse down).2.1)]) (vs := [s1, s2, .int .i64 ((burnS fuse down).1), .bool ((burnS fuse down).2.1)]) rfl ty_size_25_4 rfl rfl rfl (oc_cons h1.one (oc_cons h2.one (oc_cons rfl (oc_cons rfl oc_nil)))) k3 rfl (Nat.le_of_ble_eq_true rfl) rfl) rfl ?_
      rintro _ W32 ⟨k34, o33⟩
      replace k8 := k8.other o33 n11.symm
      clear k3
      replace h1 := h1.only o33 (.tail _ (.head _))
      replace h2 := h2.only o33 (.tail _ (.head _))
      replace hB := o33.below hB l6
      replace hL := LL.only hL o33
      refine WL.val (dx_assign rfl rfl) rfl rfl ?_
      refine WL.nil ?_
      refine hK29 ?_
      refine WC.seq fun K35 hK35 => ?_
      refine WC.seq fun K36 hK36 => ?_
      refine WC.region ?_
      refine WL.val (dx_move rfl rfl) rfl rfl ?_
      refine WL.val (dx_neq rfl rfl rfl) rfl rfl ?_
      refine WL.nil ?_
      refine hK36 ?_
      refine WC.cond rfl (fun c37 => ?_) (fun c37 => ?_)
      ·
        replace c37 := bnot_t c37
        replace c37 := of_decide_eq_false c37
        refine WC.seq fun K38 hK38 => ?_
        refine WC.region ?_
        refine WL.val (dx_loadN rfl ty_agg_25_4 rfl k34.range rfl) rfl rfl ?_
        refine WL.val (dx_move rfl rfl) rfl rfl ?_
        refine WL.do (dx_store (cs' := [s1, s2, .int .i64 ((burnS fuse down).1), .bool ((burnS fuse down).2.1)]) (vs := [s1, s2, .int .i64 ((burnS fuse down).1), .bool ((burnS fuse down).2.1)]) rfl ty_size_25_4 rfl rfl rfl (oc_cons h1.one (oc_cons h2.one (oc_cons rfl (oc_cons rfl oc_nil)))) k8 rfl (Nat.le_of_ble_eq_true rfl) rfl) rfl ?_
        rintro _ W39 ⟨k41, o40⟩
        replace k34 := k34.other o40 n11
        clear k8
        replace h1 := h1.only o40 (.head _)
        replace h2 := h2.only o40 (.head _)
        replace hB := o40.below hB l12
        replace hL := LL.only hL o40
        refine WL.val (dx_assign rfl rfl) rfl rfl ?_
        refine WL.nil ?_
        refine hK38 ?_
        refine WC.ret fun a_ ha_ => ?_
        exact hQ (cv_ret2 rfl (.agg rfl ty_agg_25_4 k41.range rfl) (.tmp rfl) (by rw [show syncS secs loose fuse down = ⟨secs, loose, (burnS fuse down).1, (burnS fuse down).2.1, (burnS fuse down).2.2⟩ from (by first | (unfold syncS; generalize burnS fuse down = bb at *; simp [syncS, c17, c24, c37]; done) | (simp [syncS, c17, c24, c37]; done))]; exact ⟨_, _, rfl, (h1.less (fun x hx => (.tail _ (.tail _ hx)))), (h2.less (fun x hx => (.tail _ (.tail _ hx))))⟩) hB ha_)
      ·
        replace c37 := bnot_f c37
        replace c37 := of_decide_eq_true c37
        refine WC.skip ?_
        refine hK35 ?_
        refine WC.seq fun K42 hK42 => ?_
        refine WC.region ?_
        refine WL.val (dx_loadN rfl ty_agg_25_4 rfl k34.range rfl) rfl rfl ?_
        refine WL.get (dx_cv rfl Try.func34 rfl rfl rfl (settle_v secs loose ((burnS fuse down).1) ((burnS fuse down).2.1) s1 s2 (fun _ _ z => z) _ W32 _ hL h1 h2 hL hne hsm hrt (fun W hW i x z hi hx hz => ⟨fv_of (cs := []) Try.func38 rfl rfl (sync1_v i x z W [] (LL.nil _) hx hz), hz⟩))) rfl rfl ?_
        rintro _ W46 ⟨⟨u43, rfl, hk44⟩, b45⟩
        replace h1 := h1.below b45
        replace h2 := h2.below b45
        replace k34 := k34.below b45
        replace k8 := k8.below b45
        replace hB := below_then hB b45
        replace hL := LL.below hL b45
        refine WL.do (dx_store (cs' := [u43, .slice none 0 0, .int .i64 ((burnS fuse down).1), .bool ((burnS fuse down).2.1)]) (vs := [u43, .slice none 0 0, .int .i64 ((burnS fuse down).1), .bool ((burnS fuse down).2.1)]) rfl ty_size_25_4 rfl rfl rfl (oc_cons hk44.one (oc_cons rfl (oc_cons rfl (oc_cons rfl oc_nil)))) k8 rfl (Nat.le_of_ble_eq_true rfl) rfl) rfl ?_
        rintro _ W47 ⟨k49, o48⟩
        replace k34 := k34.other o48 n11
        clear k8
        replace h1 := h1.only o48 (.head _)
        replace h2 := h2.only o48 (.head _)
        replace hk44 := hk44.only o48 (.head _)
        replace hB := o48.below hB l12
        replace hL := LL.only hL o48
        refine WL.val (dx_assign rfl rfl) rfl rfl ?_
        refine WL.nil ?_
        refine hK42 ?_
        refine WC.ret fun a_ ha_ => ?_
        exact hQ (cv_ret2 rfl (.agg rfl ty_agg_25_4 k49.range rfl) (.tmp rfl) (by rw [show syncS secs loose fuse down = ⟨(settleS (fun _ _ z => z) loose secs 0), [], (burnS fuse down).1, (burnS fuse down).2.1, 0⟩ from (by first | (unfold syncS; generalize burnS fuse down = bb at *; simp [syncS, c17, c24, c37]; done) | (simp [syncS, c17, c24, c37]; done))]; exact ⟨_, _, rfl, (hk44.less (fun x hx => (.tail _ (.tail _ hx)))), (RdF.nil (by decide))⟩) hB ha_)

set_option maxHeartbeats 1000000 in
theorem fall_v (secs : List (List Int)) (loose : List (Int × List Int)) (fuse : Int) (down : Bool) (s1 s2 : Value) (fv : Value) (fs : List (Int × Int)) (n : Int) (w : World) (L : List Nat) (hL : LL L w) (h1 : RdF 128 L w s1 (secs.map encS)) (h2 : RdF 129 L w s2 (loose.map encW)) (h3 : RdF 2 L w fv (fs.map encF))  (hL0 : LL L w) (hfu : -9223372036854775808 ≤ fuse ∧ fuse ≤ 9223372036854775807) (hfs : ∀ f ∈ fs, 0 ≤ f.1 ∧ f.1 ≤ 255 ∧ 0 ≤ f.2 ∧ f.2 ≤ 255) : CV Try.prog 18 [.agg #[s1, s2, .int .i64 fuse, .bool down], fv, .int .i64 n] w fun v W => ∃ s1' s2', v = .tuple #[.agg #[s1', s2', .int .i64 (fallS secs loose fuse down fs n).fuse, .bool (fallS secs loose fuse down fs n).down], .int .i64 (fallS secs loose fuse down fs n).err] ∧ RdF 128 L W s1' ((fallS secs loose fuse down fs n).secs.map encS) ∧ RdF 129 L W s2' ((fallS secs loose fuse down fs n).loose.map encW) := by
  refine cv_enter (N := 19) (f := [(0, .agg #[s1, s2, .int .i64 fuse, .bool down]), (1, fv), (2, .int .i64 n)]) Try.func18 rfl rfl rfl rfl fun Q hQ hE => ?_
  have hB := Below.refl w.heap.size w
  have h1m : secs.length ≤ maxLen := by have := h1.len; rwa [List.length_map] at this
  unfold maxLen at h1m
  have h2m : loose.length ≤ maxLen := by have := h2.len; rwa [List.length_map] at this
  unfold maxLen at h2m
  have h3m : fs.length ≤ maxLen := by have := h3.len; rwa [List.length_map] at this
  unfold maxLen at h3m
  refine WC.seq fun K1 hK1 => ?_
  refine WC.region ?_
  refine WL.get (dx_box rfl rfl rfl) rfl rfl ?_
  rintro _ W2 ⟨rfl, k3, b4, z5⟩
  have l6 := hB.size
  replace h1 := h1.more b4 (Nat.le_refl _)
  replace h2 := h2.more b4 (Nat.le_refl _)
  replace h3 := h3.more b4 (Nat.le_refl _)
  replace hB := below_then hB b4
  replace hL := LL.more hL z5
  refine WL.get (dx_box (cs := [fv]) rfl rfl (oc_one h3.one)) rfl rfl ?_
  rintro _ W7 ⟨rfl, k8, b9, z10⟩
  have n11 : w.heap.size ≠ W2.heap.size := Nat.ne_of_lt k3.lt
  have l12 := hB.size
  replace h1 := h1.more b9 (Nat.le_refl _)
  replace h2 := h2.more b9 (Nat.le_refl _)
  replace h3 := h3.more b9 (Nat.le_refl _)
  replace k3 := k3.below b9
  replace hB := below_then hB b9
  replace hL := LL.more hL z10
  refine WL.get (dx_alloc rfl ty_zero_25 rfl) rfl rfl ?_
  rintro _ W13 ⟨rfl, k14, b15, z16⟩
  have n17 : w.heap.size ≠ W7.heap.size := Nat.ne_of_lt k3.lt
  have n18 : W2.heap.size ≠ W7.heap.size := Nat.ne_of_lt k8.lt
  have l19 := hB.size
  replace h1 := h1.more b15 (Nat.le_refl _)
  replace h2 := h2.more b15 (Nat.le_refl _)
  replace h3 := h3.more b15 (Nat.le_refl _)
  replace k3 := k3.below b15
  replace k8 := k8.below b15
  replace hB := below_then hB b15
  replace hL := LL.more hL z16
  refine WL.val (dx_assign rfl rfl) rfl rfl ?_
  refine WL.nil ?_
  refine hK1 ?_
  refine WC.seq fun K20 hK20 => ?_
  refine WC.seq fun K21 hK21 => ?_
  refine WC.region ?_
  refine WL.val (dx_loadN rfl ty_agg_25_4 rfl k3.range rfl) rfl rfl ?_
  refine WL.get (dx_cv rfl Try.func16 rfl rfl rfl (right_v _ _ _ _ _ _ W13 [] (LL.nil _) (h1.less (by simp)) (h2.less (by simp)))) rfl rfl ?_
  rintro _ W23 ⟨rfl, b22⟩
  replace h1 := h1.below b22
  replace h2 := h2.below b22
  replace h3 := h3.below b22
  replace k3 := k3.below b22
  replace k8 := k8.below b22
  replace k14 := k14.below b22
  replace hB := below_then hB b22
  replace hL := LL.below hL b22
  refine WL.val (dx_not rfl rfl) rfl rfl ?_
  refine WL.nil ?_
  refine hK21 ?_
  refine WC.cond rfl (fun c24 => ?_) (fun c24 => ?_)
  ·
    replace c24 := bnot_t c24
    refine WC.seq fun K25 hK25 => ?_
    refine WC.region ?_
    refine WL.val (dx_loadN rfl ty_agg_25_4 rfl k3.range rfl) rfl rfl ?_
    refine WL.do (dx_store (cs' := [s1, s2, .int .i64 fuse, .bool down]) (vs := [s1, s2, .int .i64 fuse, .bool down]) rfl ty_size_25_4 rfl rfl rfl (oc_cons h1.one (oc_cons h2.one (oc_cons rfl (oc_cons rfl oc_nil)))) k14 rfl (Nat.le_of_ble_eq_true rfl) rfl) rfl ?_
    rintro _ W26 ⟨k28, o27⟩
    replace k3 := k3.other o27 n17
    replace k8 := k8.other o27 n18
    clear k14
    replace h1 := h1.only o27 (.head _)
    replace h2 := h2.only o27 (.head _)
    replace h3 := h3.only o27 (.head _)
    replace hB := o27.below hB l19
    replace hL := LL.only hL o27
    refine WL.val (dx_assign rfl rfl) rfl rfl ?_
    refine WL.nil ?_
    refine hK25 ?_
    refine WC.ret fun a_ ha_ => ?_
    exact hQ (cv_ret2 rfl (.agg rfl ty_agg_25_4 k28.range rfl) (.tmp rfl) (by rw [show fallS secs loose fuse down fs n = ⟨secs, loose, fuse, down, 1⟩ from (by first | (unfold fallS; generalize burnS fuse down = bb at *; simp [fallS, c24]; done) | (simp [fallS, c24]; done))]; exact ⟨_, _, rfl, (h1.less (fun x hx => (.tail _ (.tail _ (.tail _ hx))))), (h2.less (fun x hx => (.tail _ (.tail _ (.tail _ hx)))))⟩) hB ha_)
  ·
    replace c24 := bnot_f c24
    have hr := right_of c24; obtain ⟨hne, hsm, hlm, hrt⟩ := hr
    refine WC.skip ?_
    refine hK20 ?_
    refine WC.seq fun K29 hK29 => ?_
    refine WC.region ?_
    refine WL.val (dx_loadN rfl ty_agg_25_4 rfl k3.range rfl) rfl rfl ?_
    refine WL.val (dx_func rfl rfl rfl) rfl rfl ?_
    refine WL.get (dx_cv rfl Try.func34 rfl rfl rfl (settle_v secs loose fuse down s1 s2 (fateS fs) _ W23 _ hL h1 h2 hL hne hsm hrt (fun W hW i x z hi hx hz => ⟨fv_of (cs := [.pointer (some ⟨W2.heap.size, 0, none⟩)]) Try.func35 rfl rfl (fall1_v i x z _ fv fs W [] (LL.nil _) ((h3.less (by simp)).below hW) ⟨Nat.succ_pos _, W2.heap.size, 0, rfl, by simp, (k8.below hW).range⟩ hx hz hfs (by omega)), fateS_len hx hz⟩))) rfl rfl ?_
    rintro _ W33 ⟨⟨u30, rfl, hk31⟩, b32⟩
    replace h1 := h1.below b32
    replace h2 := h2.below b32
    replace h3 := h3.below b32
    replace k3 := k3.below b32
    replace k8 := k8.below b32
    replace k14 := k14.below b32
    replace hB := below_then hB b32
    replace hL := LL.below hL b32
    refine WL.do (dx_store (cs' := [u30, .slice none 0 0, .int .i64 fuse, .bool down]) (vs := [u30, .slice none 0 0, .int .i64 fuse, .bool down]) rfl ty_size_25_4 rfl rfl rfl (oc_cons hk31.one (oc_cons rfl (oc_cons rfl (oc_cons rfl oc_nil)))) k3 rfl (Nat.le_of_ble_eq_true rfl) rfl) rfl ?_
    rintro _ W34 ⟨k36, o35⟩
    replace k8 := k8.other o35 n11.symm
    replace k14 := k14.other o35 n17.symm
    clear k3
    replace h1 := h1.only o35 (.tail _ (.tail _ (.head _)))
    replace h2 := h2.only o35 (.tail _ (.tail _ (.head _)))
    replace h3 := h3.only o35 (.tail _ (.tail _ (.head _)))
    replace hk31 := hk31.only o35 (.tail _ (.tail _ (.head _)))
    replace hB := o35.below hB l6
    replace hL := LL.only hL o35
    refine WL.nil ?_
    refine hK29 ?_
    refine WC.seq fun K37 hK37 => ?_
    refine WC.region ?_
    refine WL.val (dx_fld (o1 := 3) rfl ty_fld_25_3_3 rfl rfl) rfl rfl ?_
    refine WL.do (dx_store (cs' := [u30, .slice none 0 0, .int .i64 fuse, .bool false]) (vs := [.bool false]) rfl ty_size_4_1 rfl rfl rfl (oc_cons rfl oc_nil) k36 rfl (Nat.le_of_ble_eq_true rfl) rfl) rfl ?_
    rintro _ W38 ⟨k40, o39⟩
    replace k8 := k8.other o39 n11.symm
    replace k14 := k14.other o39 n17.symm
    clear k36
    replace h1 := h1.only o39 (.tail _ (.tail _ (.head _)))
    replace h2 := h2.only o39 (.tail _ (.tail _ (.head _)))
    replace h3 := h3.only o39 (.tail _ (.tail _ (.head _)))
    replace hk31 := hk31.only o39 (.tail _ (.tail _ (.head _)))
    replace hB := o39.below hB l6
    replace hL := LL.only hL o39
    refine WL.nil ?_
    refine hK37 ?_
    refine WC.seq fun K41 hK41 => ?_
    refine WC.region ?_
    refine WL.val (dx_loadN rfl ty_agg_25_4 rfl k40.range rfl) rfl rfl ?_
    refine WL.val (dx_move rfl rfl) rfl rfl ?_
    refine WL.get (dx_cv rfl Try.func22 rfl rfl rfl (arm_v (settleS (fateS fs) loose secs 0) [] fuse false _ _ n W38 [] (LL.nil _) (hk31.less (by simp)) (RdF.nil (by decide)))) rfl rfl ?_
    rintro _ W43 ⟨rfl, b42⟩
    replace h1 := h1.below b42
    replace h2 := h2.below b42
    replace h3 := h3.below b42
    replace hk31 := hk31.below b42
    replace k40 := k40.below b42
    replace k8 := k8.below b42
    replace k14 := k14.below b42
    replace hB := below_then hB b42
    replace hL := LL.below hL b42
    refine WL.do (dx_store (cs' := [u30, .slice none 0 0, .int .i64 (if n < -1 then -1 else n), .bool false]) (vs := [u30, .slice none 0 0, .int .i64 (if n < -1 then -1 else n), .bool false]) rfl ty_size_25_4 rfl rfl rfl (oc_cons hk31.one (oc_cons rfl (oc_cons rfl (oc_cons rfl oc_nil)))) k14 rfl (Nat.le_of_ble_eq_true rfl) rfl) rfl ?_
    rintro _ W44 ⟨k46, o45⟩
    replace k40 := k40.other o45 n17
    replace k8 := k8.other o45 n18
    clear k14
    replace h1 := h1.only o45 (.head _)
    replace h2 := h2.only o45 (.head _)
    replace h3 := h3.only o45 (.head _)
    replace hk31 := hk31.only o45 (.head _)
    replace hB := o45.below hB l19
    replace hL := LL.only hL o45
    refine WL.val (dx_assign rfl rfl) rfl rfl ?_
    refine WL.nil ?_
    refine hK41 ?_
    refine WC.ret fun a_ ha_ => ?_
    exact hQ (cv_ret2 rfl (.agg rfl ty_agg_25_4 k46.range rfl) (.tmp rfl) (by rw [show fallS secs loose fuse down fs n = ⟨(settleS (fateS fs) loose secs 0), [], if n < -1 then -1 else n, false, 0⟩ from (by first | (unfold fallS; generalize burnS fuse down = bb at *; simp [fallS, c24]; done) | (simp [fallS, c24]; done))]; exact ⟨_, _, rfl, (hk31.less (fun x hx => (.tail _ (.tail _ (.tail _ hx))))), (RdF.nil (by decide))⟩) hB ha_)

end Go.Proofs.Ythefddclefimoaa

/- The reference on disks: Fall; the law DiskFalls. -/
import Derived.Test.YthefddclefimoaaDskG
import Derived.Test.YthefddclefimoaaDrR
namespace Go.Proofs.Ythefddclefimoaa
open Go.RowKit
set_option linter.unusedVariables false
set_option linter.unusedSimpArgs false
set_option maxRecDepth 8000

theorem notin_two {B C : Nat} {L : List Nat} (h1 : C ≠ B) (h2 : C ∉ L) : C ∉ B :: L := by simp [h1, h2]
set_option maxHeartbeats 1000000 in
theorem rcopyO_v (secs : List (List Int)) (loose : List (Int × List Int)) (fuse : Int) (down : Bool) (s1 s2 : Value) (w : World) (L : List Nat) (hL : LL L w) (h1 : RdF 128 L w s1 (secs.map encS)) (h2 : RdF 129 L w s2 (loose.map encW))  (hL0 : LL L w) (hsm : secs.length ≤ 2048) (hlm : loose.length ≤ 4096) : CV Try.prog 10 [.agg #[s1, s2, .int .i64 fuse, .bool down]] w fun v W => ∃ B s1' s2', v = .agg #[s1', s2', .int .i64 fuse, .bool down] ∧ w.heap.size ≤ B ∧ OwS 128 W s1' (secs.map encS) B ∧ RdF 129 (B :: L) W s2' (loose.map encW) := by
  refine cv_enter (N := 14) (f := [(0, .agg #[s1, s2, .int .i64 fuse, .bool down])]) Try.func10 rfl rfl rfl rfl fun Q hQ hE => ?_
  have hB := Below.refl w.heap.size w
  have h1m : secs.length ≤ maxLen := by have := h1.len; rwa [List.length_map] at this
  unfold maxLen at h1m
  have h2m : loose.length ≤ maxLen := by have := h2.len; rwa [List.length_map] at this
  unfold maxLen at h2m
  refine WC.seq fun K1 hK1 => ?_
  refine WC.region ?_
  refine WL.get (dx_box rfl rfl rfl) rfl rfl ?_
  rintro _ W2 ⟨rfl, k3, b4, z5⟩
  have l6 := hB.size
  replace h1 := h1.more b4 (Nat.le_refl _)
  replace h2 := h2.more b4 (Nat.le_refl _)
  replace hB := below_then hB b4
  replace hL := LL.more hL z5
  refine WL.get (dx_alloc rfl ty_zero_25 rfl) rfl rfl ?_
  rintro _ W7 ⟨rfl, k8, b9, z10⟩
  have n11 : w.heap.size ≠ W2.heap.size := Nat.ne_of_lt k3.lt
  have l12 := hB.size
  replace h1 := h1.more b9 (Nat.le_refl _)
  replace h2 := h2.more b9 (Nat.le_refl _)
  replace k3 := k3.below b9
  replace hB := below_then hB b9
  replace hL := LL.more hL z10
  refine WL.nil ?_
  refine hK1 ?_
  refine WC.seq fun K13 hK13 => ?_
  refine WC.region ?_
  refine WL.get (dx_lit0 rfl ty_ap_22 (by decide)) rfl rfl ?_
  rintro u18 W14 ⟨k15, b16, z17⟩
  have n19 : w.heap.size ≠ W7.heap.size := Nat.ne_of_lt k3.lt
  have n20 : W2.heap.size ≠ W7.heap.size := Nat.ne_of_lt k8.lt
  have l21 := hB.size
  replace h1 := h1.more b16 (Nat.le_refl _)
  replace h2 := h2.more b16 (Nat.le_refl _)
  replace k3 := k3.below b16
  replace k8 := k8.below b16
  replace hB := below_then hB b16
  replace hL := LL.more hL z17
  refine WL.val (dx_fld (o1 := 0) rfl ty_fld_25_0_0 rfl rfl) rfl rfl ?_
  refine WL.val (dx_load rfl ty_one_22 rfl (k3.cell (k := 0) rfl)) rfl rfl ?_
  refine WL.get (dx_apO' (rs := []) (news := (secs.map encS)) rfl ty_ap_22 rfl rfl k15 h1 (oc_rows oc_S secs) (by simp; unfold maxLen; omega) (by simp; omega)) rfl rfl ?_
  rintro u25 W22 ⟨B26, k23, g24⟩
  have n27 : w.heap.size ≠ B26 := k3.grow_ne g24 n19
  have n28 : W2.heap.size ≠ B26 := k8.grow_ne g24 n20
  have l29 := g24.le l21 hB.size
  replace h1 := h1.grow' g24 (.head _)
  replace h2 := h2.grow' g24 (.head _)
  replace k3 := k3.grow g24 n19
  replace k8 := k8.grow g24 n20
  replace hB := g24.below hB l21 hB.size
  replace hL := LL.grow hL g24 k23.lt
  rw [List.nil_append] at k23
  refine WL.val (dx_fld (o1 := 0) rfl ty_fld_25_0_0 rfl rfl) rfl rfl ?_
  refine WL.do (dx_store (cs' := [u25, s2, .int .i64 fuse, .bool down]) (vs := [u25]) rfl ty_size_22_1 rfl rfl (oc_one k23.one) (oc_cons k23.one oc_nil) k3 rfl (Nat.le_of_ble_eq_true rfl) rfl) rfl ?_
  rintro _ W30 ⟨k32, o31⟩
  replace k8 := k8.other o31 n11.symm
  replace k23 := k23.other o31 n27.symm
  clear k3
  replace h1 := h1.only o31 (.tail _ (.tail _ (.tail _ (.head _))))
  replace h2 := h2.only o31 (.tail _ (.tail _ (.tail _ (.head _))))
  replace hB := o31.below hB l6
  replace hL := LL.only hL o31
  refine WL.nil ?_
  refine hK13 ?_
  refine WC.seq fun K33 hK33 => ?_
  refine WC.region ?_
  refine WL.get (dx_lit0 rfl ty_ap_23 (by decide)) rfl rfl ?_
  rintro u38 W34 ⟨k35, b36, z37⟩
  have n39 : w.heap.size ≠ W30.heap.size := Nat.ne_of_lt k32.lt
  have n40 : W2.heap.size ≠ W30.heap.size := Nat.ne_of_lt k8.lt
  have n41 : B26 ≠ W30.heap.size := Nat.ne_of_lt k23.lt
  have l42 := hB.size
  replace h1 := h1.more b36 (Nat.le_refl _)
  replace h2 := h2.more b36 (Nat.le_refl _)
  replace k32 := k32.below b36
  replace k8 := k8.below b36
  replace k23 := k23.below b36
  replace hB := below_then hB b36
  replace hL := LL.more hL z37
  refine WL.val (dx_fld (o1 := 1) rfl ty_fld_25_1_1 rfl rfl) rfl rfl ?_
  refine WL.val (dx_load rfl ty_one_23 rfl (k32.cell (k := 1) rfl)) rfl rfl ?_
  refine WL.get (dx_apO' (rs := []) (news := (loose.map encW)) rfl ty_ap_23 rfl rfl k35 h2 (oc_rows oc_W loose) (by simp; unfold maxLen; omega) (by simp; omega)) rfl rfl ?_
  rintro u46 W43 ⟨B47, k44, g45⟩
  have n48 : w.heap.size ≠ B47 := k32.grow_ne g45 n39
  have n49 : W2.heap.size ≠ B47 := k8.grow_ne g45 n40
  have n50 : B26 ≠ B47 := k23.grow_ne g45 n41
  have l51 := g45.le l42 hB.size
  replace h1 := h1.grow' g45 (.head _)
  replace h2 := h2.grow' g45 (.head _)
  replace k32 := k32.grow g45 n39
  replace k8 := k8.grow g45 n40
  replace k23 := k23.grow g45 n41
  replace hB := g45.below hB l42 hB.size
  replace hL := LL.grow hL g45 k44.lt
  rw [List.nil_append] at k44
  refine WL.val (dx_fld (o1 := 1) rfl ty_fld_25_1_1 rfl rfl) rfl rfl ?_
  refine WL.do (dx_store (cs' := [u25, u46, .int .i64 fuse, .bool down]) (vs := [u46]) rfl ty_size_23_1 rfl rfl (oc_one k44.one) (oc_cons k44.one oc_nil) k32 rfl (Nat.le_of_ble_eq_true rfl) rfl) rfl ?_
  rintro _ W52 ⟨k54, o53⟩
  replace k8 := k8.other o53 n11.symm
  replace k23 := k23.other o53 n27.symm
  replace k44 := k44.other o53 n48.symm
  clear k32
  replace h1 := h1.only o53 (.tail _ (.tail _ (.tail _ (.tail _ (.tail _ (.head _))))))
  replace h2 := h2.only o53 (.tail _ (.tail _ (.tail _ (.tail _ (.tail _ (.head _))))))
  replace hB := o53.below hB l6
  replace hL := LL.only hL o53
  refine WL.nil ?_
  refine hK33 ?_
  refine WC.seq fun K55 hK55 => ?_
  refine WC.region ?_
  refine WL.val (dx_loadN rfl ty_agg_25_4 rfl k54.range rfl) rfl rfl ?_
  refine WL.do (dx_store (cs' := [u25, u46, .int .i64 fuse, .bool down]) (vs := [u25, u46, .int .i64 fuse, .bool down]) rfl ty_size_25_4 rfl rfl rfl (oc_cons k23.one (oc_cons k44.one (oc_cons rfl (oc_cons rfl oc_nil)))) k8 rfl (Nat.le_of_ble_eq_true rfl) rfl) rfl ?_
  rintro _ W56 ⟨k58, o57⟩
  replace k54 := k54.other o57 n11
  replace k23 := k23.other o57 n28.symm
  replace k44 := k44.other o57 n49.symm
  clear k8
  replace h1 := h1.only o57 (.tail _ (.tail _ (.tail _ (.tail _ (.head _)))))
  replace h2 := h2.only o57 (.tail _ (.tail _ (.tail _ (.tail _ (.head _)))))
  replace hB := o57.below hB l12
  replace hL := LL.only hL o57
  refine WL.nil ?_
  refine hK55 ?_
  refine WC.ret fun a_ ha_ => ?_
  exact hQ (cv_ret1 rfl (.agg rfl ty_agg_25_4 k58.range rfl) ⟨_, _, _, rfl, l29, k23, k44.rd (notin_two n50.symm (LL.notin hL0 l51))⟩ hB ha_)

theorem fall_bad {secs : List (List Int)} {loose : List (Int × List Int)} {fuse : Int} {down : Bool} {fs : List (Int × Int)} {n : Int} (h : rightD secs loose = false) : fallS secs loose fuse down fs n = ⟨secs, loose, fuse, down, 1⟩ := by unfold fallS; rw [if_pos h]
theorem fall_well {secs : List (List Int)} {loose : List (Int × List Int)} {fuse : Int} {down : Bool} {fs : List (Int × Int)} {n : Int} (h : rightD secs loose = true) : fallS secs loose fuse down fs n = ⟨settleS (fateS fs) loose secs 0, [], if n < -1 then -1 else n, false, 0⟩ := by unfold fallS; rw [if_neg (by simp [h])]
theorem fate_at {fs : List (Int × Int)} {i : Nat} {f : Int × Int} (old z : List Int) (h : fs[i % fs.length]? = some f) : fateS fs i old z = if f.1 % 3 = 1 then z else if f.1 % 3 = 2 then tornS old z (f.2 % 128).toNat else old := by
  unfold fateS
  rw [if_neg (fun e => by subst e; simp at h), h]
theorem fstep {fs : List (Int × Int)} {l : List (Int × List Int)} {cur : List (List Int)} {i : Nat} {p : Int × List Int} {f : Int × Int} {r : List Int} (h : l[i]? = some p) (hr : cur[p.1.toNat]? = some r) (hf : fs[i % fs.length]? = some f) : settleS (fateS fs) (l.drop i) cur i = settleS (fateS fs) (l.drop (i + 1)) (cur.set p.1.toNat (if f.1 % 3 = 1 then p.2 else if f.1 % 3 = 2 then tornS r p.2 (f.2 % 128).toNat else r)) (i + 1) := by
  rw [settle_step h hr, fate_at r p.2 hf]
theorem fstep_z {fs : List (Int × Int)} {l : List (Int × List Int)} {cur : List (List Int)} {i : Nat} {p : Int × List Int} {f : Int × Int} (h : l[i]? = some p) (hl : p.1.toNat < cur.length) (hf : fs[i % fs.length]? = some f) (h1 : f.1 % 3 = 1) : settleS (fateS fs) (l.drop i) cur i = settleS (fateS fs) (l.drop (i + 1)) (cur.set p.1.toNat p.2) (i + 1) := by
  rw [fstep h (List.getElem?_eq_getElem hl) hf, if_pos h1]
theorem fstep_t {fs : List (Int × Int)} {l : List (Int × List Int)} {cur : List (List Int)} {i : Nat} {p : Int × List Int} {f : Int × Int} {r : List Int} (h : l[i]? = some p) (hr : cur[p.1.toNat]? = some r) (hf : fs[i % fs.length]? = some f) (h1 : ¬ f.1 % 3 = 1) (h2 : f.1 % 3 = 2) : settleS (fateS fs) (l.drop i) cur i = settleS (fateS fs) (l.drop (i + 1)) (cur.set p.1.toNat (tornS r p.2 (f.2 % 128).toNat)) (i + 1) := by
  rw [fstep h hr hf, if_neg h1, if_pos h2]
theorem fstep_o {fs : List (Int × Int)} {l : List (Int × List Int)} {cur : List (List Int)} {i : Nat} {p : Int × List Int} {f : Int × Int} (h : l[i]? = some p) (hl : p.1.toNat < cur.length) (hf : fs[i % fs.length]? = some f) (h1 : ¬ f.1 % 3 = 1) (h2 : ¬ f.1 % 3 = 2) : settleS (fateS fs) (l.drop i) cur i = settleS (fateS fs) (l.drop (i + 1)) cur (i + 1) := by
  rw [fstep h (List.getElem?_eq_getElem hl) hf, if_neg h1, if_neg h2, List.set_getElem_self]
theorem settle_none : ∀ (l : List (Int × List Int)) (cur : List (List Int)) (i : Nat), settleS (fateS []) l cur i = cur
  | [], cur, i => rfl
  | p :: l, cur, i => by
    rw [settleS, settle_none l]
    unfold fateS
    rw [if_pos rfl]
    rcases Nat.lt_or_ge p.1.toNat cur.length with h | h
    · rw [List.getElem?_eq_getElem h]
      exact List.set_getElem_self h
    · exact List.set_eq_of_length_le h
theorem settle_stop {fs : List (Int × Int)} {l : List (Int × List Int)} {cur : List (List Int)} {i : Nat} (h : ¬ (i : Int) < l.length ∨ fs.length = 0) : settleS (fateS fs) (l.drop i) cur i = cur := by
  rcases h with h | h
  · exact settle_end h
  · rw [List.length_eq_zero_iff.1 h]
    exact settle_none _ _ _
set_option maxHeartbeats 1000000 in
theorem rfall_v (secs : List (List Int)) (loose : List (Int × List Int)) (fuse : Int) (down : Bool) (s1 s2 : Value) (fv : Value) (fs : List (Int × Int)) (n : Int) (w : World) (L : List Nat) (hL : LL L w) (h1 : RdF 128 L w s1 (secs.map encS)) (h2 : RdF 129 L w s2 (loose.map encW)) (h3 : RdF 2 L w fv (fs.map encF))  (hL0 : LL L w) (hfu : -9223372036854775808 ≤ fuse ∧ fuse ≤ 9223372036854775807) (hfs : ∀ f ∈ fs, 0 ≤ f.1 ∧ f.1 ≤ 255 ∧ 0 ≤ f.2 ∧ f.2 ≤ 255) : CV Try.prog 19 [.agg #[s1, s2, .int .i64 fuse, .bool down], fv, .int .i64 n] w fun v W => ∃ s1' s2', v = .tuple #[.agg #[s1', s2', .int .i64 (fallS secs loose fuse down fs n).fuse, .bool (fallS secs loose fuse down fs n).down], .int .i64 (fallS secs loose fuse down fs n).err] ∧ RdF 128 L W s1' ((fallS secs loose fuse down fs n).secs.map encS) ∧ RdF 129 L W s2' ((fallS secs loose fuse down fs n).loose.map encW) := by
  refine cv_enter (N := 79) (f := [(0, .agg #[s1, s2, .int .i64 fuse, .bool down]), (1, fv), (2, .int .i64 n)]) Try.func19 rfl rfl rfl rfl fun Q hQ hE => ?_
  have hB := Below.refl w.heap.size w
  have h1m : secs.length ≤ maxLen := by have := h1.len; rwa [List.length_map] at this
  unfold maxLen at h1m
  have h2m : loose.length ≤ maxLen := by have := h2.len; rwa [List.length_map] at this
  unfold maxLen at h2m
  have h3m : fs.length ≤ maxLen := by have := h3.len; rwa [List.length_map] at this
  unfold maxLen at h3m
  refine WC.seq fun K1 hK1 => ?_
  refine WC.region ?_
  refine WL.get (dx_box rfl rfl rfl) rfl rfl ?_
  rintro _ W2 ⟨rfl, k3, b4, z5⟩
  have l6 := hB.size
  replace h1 := h1.more b4 (Nat.le_refl _)
  replace h2 := h2.more b4 (Nat.le_refl _)
  replace h3 := h3.more b4 (Nat.le_refl _)
  replace hB := below_then hB b4
  replace hL := LL.more hL z5
  refine WL.get (dx_alloc rfl ty_zero_25 rfl) rfl rfl ?_
  rintro _ W7 ⟨rfl, k8, b9, z10⟩
  have n11 : w.heap.size ≠ W2.heap.size := Nat.ne_of_lt k3.lt
  have l12 := hB.size
  replace h1 := h1.more b9 (Nat.le_refl _)
  replace h2 := h2.more b9 (Nat.le_refl _)
  replace h3 := h3.more b9 (Nat.le_refl _)
  replace k3 := k3.below b9
  replace hB := below_then hB b9
  replace hL := LL.more hL z10
  refine WL.val (dx_assign rfl rfl) rfl rfl ?_
  refine WL.nil ?_
  refine hK1 ?_
  refine WC.seq fun K13 hK13 => ?_
  refine WC.seq fun K14 hK14 => ?_
  refine WC.region ?_
  refine WL.val (dx_loadN rfl ty_agg_25_4 rfl k3.range rfl) rfl rfl ?_
  refine WL.get (dx_cv rfl Try.func17 rfl rfl rfl (rright_v secs loose fuse down _ _ W7 _ hL h1 h2)) rfl rfl ?_
  rintro _ W16 ⟨rfl, b15⟩
  replace h1 := h1.below b15
  replace h2 := h2.below b15
  replace h3 := h3.below b15
  replace k3 := k3.below b15
  replace k8 := k8.below b15
  replace hB := below_then hB b15
  replace hL := LL.below hL b15
  refine WL.val (dx_not rfl rfl) rfl rfl ?_
  refine WL.nil ?_
  refine hK14 ?_
  refine WC.cond rfl (fun c17 => ?_) (fun c17 => ?_)
  ·
    replace c17 := bnot_t c17
    refine WC.seq fun K18 hK18 => ?_
    refine WC.region ?_
    refine WL.val (dx_loadN rfl ty_agg_25_4 rfl k3.range rfl) rfl rfl ?_
    refine WL.do (dx_store (cs' := [s1, s2, .int .i64 fuse, .bool down]) (vs := [s1, s2, .int .i64 fuse, .bool down]) rfl ty_size_25_4 rfl rfl rfl (oc_cons h1.one (oc_cons h2.one (oc_cons rfl (oc_cons rfl oc_nil)))) k8 rfl (Nat.le_of_ble_eq_true rfl) rfl) rfl ?_
    rintro _ W19 ⟨k21, o20⟩
    replace k3 := k3.other o20 n11
    clear k8
    replace h1 := h1.only o20 (.head _)
    replace h2 := h2.only o20 (.head _)
    replace h3 := h3.only o20 (.head _)
    replace hB := o20.below hB l12
    replace hL := LL.only hL o20
    refine WL.val (dx_assign rfl rfl) rfl rfl ?_
    refine WL.nil ?_
    refine hK18 ?_
    refine WC.ret fun a_ ha_ => ?_
    exact hQ (cv_ret2 rfl (.agg rfl ty_agg_25_4 k21.range rfl) (.tmp rfl) (by rw [fall_bad (by first | assumption | (simp_all; done) | omega)]; exact ⟨_, _, rfl, (h1.less (fun x hx => (.tail _ (.tail _ hx)))), (h2.less (fun x hx => (.tail _ (.tail _ hx))))⟩) hB ha_)
  ·
    replace c17 := bnot_f c17
    have hr := right_of c17; obtain ⟨hne, hsm, hlm, hrt⟩ := hr
    refine WC.skip ?_
    refine hK13 ?_
    refine WC.seq fun K22 hK22 => ?_
    refine WC.region ?_
    refine WL.val (dx_loadN rfl ty_agg_25_4 rfl k3.range rfl) rfl rfl ?_
    refine WL.get (dx_cv rfl Try.func10 rfl rfl rfl (rcopyO_v secs loose fuse down _ _ W16 _ hL h1 h2 hL (by omega) (by omega))) rfl rfl ?_
    rintro _ W30 ⟨⟨B23, u24, u25, rfl, q26, k27, j28⟩, b29⟩
    have n31 : w.heap.size ≠ B23 := Nat.ne_of_lt (Nat.lt_of_lt_of_le k3.lt q26)
    have n32 : W2.heap.size ≠ B23 := Nat.ne_of_lt (Nat.lt_of_lt_of_le k8.lt q26)
    have l33 := Nat.le_trans hB.size q26
    replace h1 := h1.more b29 q26
    replace h2 := h2.more b29 q26
    replace h3 := h3.more b29 q26
    replace k3 := k3.below b29
    replace k8 := k8.below b29
    replace hB := below_then hB b29
    replace hL := LL.cons (LL.below hL b29) k27.lt
    refine WL.get (dx_alloc rfl ty_zero_25 rfl) rfl rfl ?_
    rintro _ W34 ⟨rfl, k35, b36, z37⟩
    have n38 : w.heap.size ≠ W30.heap.size := Nat.ne_of_lt k3.lt
    have n39 : W2.heap.size ≠ W30.heap.size := Nat.ne_of_lt k8.lt
    have n40 : B23 ≠ W30.heap.size := Nat.ne_of_lt k27.lt
    have l41 := hB.size
    replace h1 := h1.more b36 (Nat.le_refl _)
    replace h2 := h2.more b36 (Nat.le_refl _)
    replace h3 := h3.more b36 (Nat.le_refl _)
    replace j28 := j28.more b36 (Nat.le_refl _)
    replace k3 := k3.below b36
    replace k8 := k8.below b36
    replace k27 := k27.below b36
    replace hB := below_then hB b36
    replace hL := LL.more hL z37
    refine WL.do (dx_store (cs' := [u24, u25, .int .i64 fuse, .bool down]) (vs := [u24, u25, .int .i64 fuse, .bool down]) rfl ty_size_25_4 rfl rfl rfl (oc_cons k27.one (oc_cons j28.one (oc_cons rfl (oc_cons rfl oc_nil)))) k35 rfl (Nat.le_of_ble_eq_true rfl) rfl) rfl ?_
    rintro _ W42 ⟨k44, o43⟩
    replace k3 := k3.other o43 n38
    replace k8 := k8.other o43 n39
    replace k27 := k27.other o43 n40
    clear k35
    replace h1 := h1.only o43 (.head _)
    replace h2 := h2.only o43 (.head _)
    replace h3 := h3.only o43 (.head _)
    replace j28 := j28.only o43 (.head _)
    replace hB := o43.below hB l41
    replace hL := LL.only hL o43
    refine WL.nil ?_
    refine hK22 ?_
    refine WC.seq fun K45 hK45 => ?_
    refine WC.seq fun K46 hK46 => ?_
    refine WC.region ?_
    refine WL.val (dx_assign rfl rfl) rfl rfl ?_
    refine WL.nil ?_
    refine hK46 ?_
    refine WC.block ?_
    refine WC.loop2 (fun (i : Nat) (cur : List (List Int)) => [(1, fv), (2, .int .i64 n), (3, .pointer (some ⟨w.heap.size, 0, none⟩)), (6, .pointer (some ⟨W2.heap.size, 0, none⟩)), (8, .pointer (some ⟨W30.heap.size, 0, none⟩)), (9, .int .i64 (i : Int))]) (fun (i : Nat) (cur : List (List Int)) W => i ≤ loose.length ∧ settleS (fateS fs) loose secs 0 = settleS (fateS fs) (loose.drop i) cur i ∧ cur.length = secs.length ∧ Below w.heap.size w W ∧ LL (W30.heap.size :: B23 :: W2.heap.size :: w.heap.size :: L) W ∧ RdF 128 (W30.heap.size :: B23 :: W2.heap.size :: w.heap.size :: L) W s1 (secs.map encS) ∧ RdF 129 (W30.heap.size :: B23 :: W2.heap.size :: w.heap.size :: L) W s2 (loose.map encW) ∧ RdF 2 (W30.heap.size :: B23 :: W2.heap.size :: w.heap.size :: L) W fv (fs.map encF) ∧ RdF 129 (W30.heap.size :: B23 :: W2.heap.size :: w.heap.size :: L) W u25 (loose.map encW) ∧ Blk W w.heap.size [s1, s2, .int .i64 fuse, .bool down] ∧ Blk W W2.heap.size [.slice none 0 0, .slice none 0 0, .int .i64 0, .bool false] ∧ OwS 128 W u24 (cur.map encS) B23 ∧ Blk W W30.heap.size [u24, u25, .int .i64 fuse, .bool down]) (fun (i : Nat) (cur : List (List Int)) => loose.length - i) 0 secs (by repeat first | exact trivial | exact And.intro rfl trivial | refine And.intro rfl ?_ | refine And.intro (congrArg (fun z : Int => some (Value.int .i64 z)) (by omega)) ?_) ⟨Nat.zero_le _, rfl, rfl, hB, hL, h1, h2, h3, j28, k3, k8, k27, k44⟩ ?_
    clear h1 h2 h3 j28 k3 k8 k27 k44 hB hL
    rintro K47 i cur W48 ⟨hi, hv, hc, hB, hL, h1, h2, h3, j28, k3, k8, k27, k44⟩ hK47
    refine WC.seq fun K49 hK49 => ?_
    refine WC.seq fun K50 hK50 => ?_
    refine WC.region ?_
    refine WL.val (dx_move rfl rfl) rfl rfl ?_
    refine WL.val (dx_fld (o1 := 1) rfl ty_fld_25_1_1 rfl rfl) rfl rfl ?_
    refine WL.val (dx_load rfl ty_one_23 rfl (k44.cell (k := 1) rfl)) rfl rfl ?_
    refine WL.val (dx_lenM rfl ty_slice_23 rfl j28) rfl rfl ?_
    refine WL.val (dx_lss rfl rfl rfl) rfl rfl ?_
    refine WL.val (dx_move rfl rfl) rfl rfl ?_
    refine WL.split 23 rfl (fun g51 => ?_) (fun g51 => ?_)
    ·
      replace g51 := of_decide_eq_true g51
      refine WL.val (dx_move rfl rfl) rfl rfl ?_
      refine WL.val (dx_lenM rfl ty_slice_38 rfl h3) rfl rfl ?_
      refine WL.val (dx_gtr rfl rfl rfl) rfl rfl ?_
      refine WL.val (dx_pick rfl rfl rfl) rfl rfl ?_
      refine WL.nil ?_
      refine hK50 ?_
      refine WC.cond rfl (fun c52 => ?_) (fun c52 => ?_)
      ·
        replace c52 := of_decide_eq_true c52
        refine WC.skip ?_
        refine hK49 ?_
        refine WC.seq fun K53 hK53 => ?_
        refine WC.block ?_
        refine WC.seq fun K54 hK54 => ?_
        have hq1 := Int.emod_nonneg (i : Int) (b := (fs.length : Int)) (by omega)
        have hq2 := Int.emod_lt_of_pos (i : Int) (b := (fs.length : Int)) (by omega)
        have hq3 : ((i : Int) % (fs.length : Int)).toNat = i % fs.length := by omega
        obtain ⟨r55, e56⟩ : ∃ x, loose[i]? = some x := ⟨_, List.getElem?_eq_getElem (by omega)⟩
        have Lr55 := rdf_W j28 e56
        have Rr55 := hrt r55 (List.mem_of_getElem? e56)
        obtain ⟨r57, e58⟩ : ∃ x, fs[((i : Int) % (fs.length : Int)).toNat]? = some x := ⟨_, List.getElem?_eq_getElem (by omega)⟩
        have Gr57 := hfs r57 (List.mem_of_getElem? e58)
        rw [hq3] at e58
        refine WC.drawR 15 14 12 10 (fun u W => NewT W48.heap.size 59 129 u W) (fun u W => NewP W48.heap.size 59 (encW r55) u W) (WrT W48.heap.size 59 129) [(some 30, .is (.pointer (some ⟨W30.heap.size, 1, none⟩))), (some 31, .is (u25)), (some 32, .is (.int .i64 (i : Int))), (some 33, .by fun u W => PtB W48.heap.size (W30.heap.size :: B23 :: W2.heap.size :: w.heap.size :: L) W u (encW r55)), (some 34, .is (.agg (encW r55).toArray)), (some 35, .is (fv)), (some 36, .is (.int .i64 (i : Int))), (some 37, .is (fv)), (some 38, .is (.int .i64 (fs.length : Int))), (some 39, .is (.int .i64 ((i : Int) % (fs.length : Int)))), (some 40, .by fun u W => PtB W48.heap.size (W30.heap.size :: B23 :: W2.heap.size :: w.heap.size :: L) W u (encF r57)), (some 41, .is (.agg #[.int .u8 r57.1, .int .u8 r57.2])), (some 10, .by fun u W => NewT W48.heap.size 59 129 u W), (some 11, .by fun u W => NewP W48.heap.size 55 [.int .u8 0, .int .u8 0] u W), (none, .by fun _ _ => True)] [[], [0], [], [1, 2], [3], [], [], [], [7], [6, 8], [5, 9], [10], [], [], [12, 4, 0, 1, 2, 3, 4, 12, 13]] (by kernel_rfl) (by kernel_rfl) (by kernel_rfl) (by kernel_rfl) (by kernel_rfl) (by kernel_rfl) (by kernel_rfl) ⟨fun _ _ _ hb h => h.below hb, fun _ _ _ hb h => h.below hb, fun _ _ _ hb h => h.below hb, fun _ _ _ hb h => h.below hb, fun _ _ _ _ h => h, trivial⟩ rfl rfl rfl (by decide) (by decide) ⟨fun _ _ _ hw h => h.wr hw, fun _ _ _ hw h => h.wr hw, fun _ _ _ hw h => h.wr hw, fun _ _ _ hw h => h.wr hw rfl, fun _ _ _ _ h => h, trivial⟩ (fun _ _ _ hb h => h.below hb) (fun _ _ hb hw => hw.below hb) ?_ ?_
        ·
          refine DStepsR.cons (by decide) (fun Wd hd => ?_) ?_
          ·
            exact DV.dr (dx_fld (o1 := 1) rfl ty_fld_25_1_1 rfl rfl) ⟨Below.refl _ _, rfl⟩
          refine DStepsR.cons (by decide) (fun Wd hd => ?_) ?_
          ·
            have k44 := k44.below hd
            exact DV.dr (dx_load rfl ty_one_23 rfl (k44.cell (k := 1) rfl)) ⟨Below.refl _ _, rfl⟩
          refine DStepsR.cons (by decide) (fun Wd hd => ?_) ?_
          ·
            exact DV.dr (dx_move rfl rfl) ⟨Below.refl _ _, rfl⟩
          refine DStepsR.cons (by decide) (fun Wd hd => ?_) ?_
          ·
            have zj28 := j28
            exact (dx_idxB i rfl ty_slice_23 rfl rfl zj28 hd (by omega) (at_map e56)).mono (fun v W' h => ⟨by rw [← h.1]; exact Below.refl _ _, by rw [← h.1]; exact h.2⟩)
          refine DStepsR.cons (by decide) (fun Wd hd => ?_) ?_
          ·
            intro u7_3 p7_3
            exact DV.dr (dx_loadPN rfl ty_agg_59_129 rfl p7_3.ptr (by simp [encW, encS_len, Lr55])) ⟨Below.refl _ _, rfl⟩
          refine DStepsR.cons (by decide) (fun Wd hd => ?_) ?_
          ·
            exact DV.dr (dx_move rfl rfl) ⟨Below.refl _ _, rfl⟩
          refine DStepsR.cons (by decide) (fun Wd hd => ?_) ?_
          ·
            exact DV.dr (dx_move rfl rfl) ⟨Below.refl _ _, rfl⟩
          refine DStepsR.cons (by decide) (fun Wd hd => ?_) ?_
          ·
            exact DV.dr (dx_move rfl rfl) ⟨Below.refl _ _, rfl⟩
          refine DStepsR.cons (by decide) (fun Wd hd => ?_) ?_
          ·
            have h3 := h3.below hd
            exact DV.dr (dx_lenM rfl ty_slice_38 rfl h3) ⟨Below.refl _ _, rfl⟩
          refine DStepsR.cons (by decide) (fun Wd hd => ?_) ?_
          ·
            exact DV.dr (dx_rem (r := (i : Int) % (fs.length : Int)) rfl rfl rfl (by omega) (Int.tmod_eq_emod_of_nonneg (by omega))) ⟨Below.refl _ _, rfl⟩
          refine DStepsR.cons (by decide) (fun Wd hd => ?_) ?_
          ·
            have zh3 := h3
            exact (dx_idxB (((i : Int) % (fs.length : Int)).toNat) rfl ty_slice_38 rfl rfl zh3 hd (by omega) (at_map (by rw [hq3]; exact e58))).mono (fun v W' h => ⟨by rw [← h.1]; exact Below.refl _ _, by rw [← h.1]; exact h.2⟩)
          refine DStepsR.cons (by decide) (fun Wd hd => ?_) ?_
          ·
            intro u7_10 p7_10
            exact DV.dr (dx_loadPN rfl ty_agg_55_2 rfl p7_10.ptr rfl) ⟨Below.refl _ _, rfl⟩
          refine DStepsR.cons (by decide) (fun Wd hd => ?_) ?_
          ·
            exact (dx_allocP (cs := encW (0, z0)) rfl zeroW rfl).mono (fun v W' h => ⟨h.1, (h.2 hd).newT (by simp [encW, encS_len, z0_len])⟩)
          refine DStepsR.cons (by decide) (fun Wd hd => ?_) ?_
          ·
            exact (dx_allocP rfl ty_zero_55 rfl).mono (fun v W' h => ⟨h.1, h.2 hd⟩)
          refine DStepsR.hit (fun Wd hd ut hut => ?_) ?_
          ·
            intro u7_3 p7_3 u7_13 p7_13
            exact dx_storeT rfl ty_size_59_129 rfl hut rfl rfl (oc_cons rfl (oc_S r55.2)) (by simp [encW, encS_len, Lr55])
          exact trivial
        ·
          intro W59 b60
          rintro _ - ⟨B7_12, rfl, q7_12, t7_12⟩
          have k7_12 := t7_12.blk
          intro u7_3 p7_3
          intro u7_10 p7_10
          rintro _ ⟨B7_13, rfl, q7_13, t7_13⟩
          have k7_13 := t7_13.blk
          intro _ _
          have n61 : w.heap.size ≠ B7_12 := Nat.ne_of_lt (Nat.lt_of_lt_of_le k3.lt q7_12)
          have n62 : w.heap.size ≠ B7_13 := Nat.ne_of_lt (Nat.lt_of_lt_of_le k3.lt q7_13)
          have n63 : W2.heap.size ≠ B7_12 := Nat.ne_of_lt (Nat.lt_of_lt_of_le k8.lt q7_12)
          have n64 : W2.heap.size ≠ B7_13 := Nat.ne_of_lt (Nat.lt_of_lt_of_le k8.lt q7_13)
          have n65 : B23 ≠ B7_12 := Nat.ne_of_lt (Nat.lt_of_lt_of_le k27.lt q7_12)
          have n66 : B23 ≠ B7_13 := Nat.ne_of_lt (Nat.lt_of_lt_of_le k27.lt q7_13)
          have n67 : W30.heap.size ≠ B7_12 := Nat.ne_of_lt (Nat.lt_of_lt_of_le k44.lt q7_12)
          have n68 : W30.heap.size ≠ B7_13 := Nat.ne_of_lt (Nat.lt_of_lt_of_le k44.lt q7_13)
          replace h1 := h1.more (Below.refl _ _) q7_12
          replace h1 := h1.more b60 q7_13
          replace h2 := h2.more (Below.refl _ _) q7_12
          replace h2 := h2.more b60 q7_13
          replace h3 := h3.more (Below.refl _ _) q7_12
          replace h3 := h3.more b60 q7_13
          replace j28 := j28.more (Below.refl _ _) q7_12
          replace j28 := j28.more b60 q7_13
          replace k3 := k3.below b60
          replace k8 := k8.below b60
          replace k27 := k27.below b60
          replace k44 := k44.below b60
          have n69 : B7_12 ≠ B7_13 := t7_12.ne t7_13 rfl
          have l70 := Nat.le_trans hB.size q7_12
          have l71 := Nat.le_trans hB.size q7_13
          replace hB := below_then hB b60
          replace hL := LL.below hL b60
          replace hL := LL.cons hL k7_12.lt
          replace hL := LL.cons hL k7_13.lt
          refine WL.do (dx_store (cs' := [.int .u8 r57.1, .int .u8 r57.2]) (vs := [.int .u8 r57.1, .int .u8 r57.2]) rfl ty_size_55_2 rfl rfl rfl (oc_cons rfl (oc_cons rfl oc_nil)) k7_13 rfl (Nat.le_of_ble_eq_true rfl) rfl) rfl ?_
          rintro _ W72 ⟨k74, o73⟩
          replace k3 := k3.other o73 n62
          replace k8 := k8.other o73 n64
          replace k27 := k27.other o73 n66
          replace k44 := k44.other o73 n68
          replace k7_12 := k7_12.other o73 n69
          clear k7_13
          replace h1 := h1.only o73 (.head _)
          replace h2 := h2.only o73 (.head _)
          replace h3 := h3.only o73 (.head _)
          replace j28 := j28.only o73 (.head _)
          replace hB := o73.below hB l71
          replace hL := LL.only hL o73
          refine WL.nil ?_
          refine hK54 ?_
          refine WC.seq fun K75 hK75 => ?_
          refine WC.region ?_
          refine WL.val (dx_fld (o1 := 0) rfl ty_fld_55_0_0 rfl rfl) rfl rfl ?_
          refine WL.val (dx_load rfl ty_one_5 rfl (k74.cell (k := 0) rfl)) rfl rfl ?_
          refine WL.val (dx_rem (r := r57.1 % 3) rfl rfl rfl (by omega) (Int.tmod_eq_emod_of_nonneg (by omega))) rfl rfl ?_
          refine WL.nil ?_
          refine hK75 ?_
          refine WC.block ?_
          refine WC.seq fun K76 hK76 => ?_
          refine WC.region ?_
          refine WL.val (dx_eql rfl rfl rfl) rfl rfl ?_
          refine WL.val (dx_assign rfl rfl) rfl rfl ?_
          refine WL.nil ?_
          refine hK76 ?_
          refine WC.cond rfl (fun c77 => ?_) (fun c77 => ?_)
          ·
            replace c77 := of_decide_eq_true c77
            refine WC.region ?_
            refine WL.val (dx_fld (o1 := 0) rfl ty_fld_25_0_0 rfl rfl) rfl rfl ?_
            refine WL.val (dx_load rfl ty_one_22 rfl (k44.cell (k := 0) rfl)) rfl rfl ?_
            refine WL.val (dx_fld (o1 := 0) rfl ty_fld_59_0_0 rfl rfl) rfl rfl ?_
            refine WL.val (dx_load rfl ty_one_3 rfl (k7_12.cell (k := 0) rfl)) rfl rfl ?_
            refine WL.val (dx_fld (o1 := 1) rfl ty_fld_59_1_1 rfl rfl) rfl rfl ?_
            refine WL.val (dx_loadN (cs := (encS r55.2)) rfl ty_agg_27_128 rfl (k7_12.partE (n := 128) (by simp [encW, List.take_of_length_le, encS_len, Lr55])) (by rw [encS_len]; exact Lr55)) rfl rfl ?_
            refine WL.val (dx_idxO r55.1.toNat rfl ty_slice_22 rfl rfl k27 (by omega) (by rw [List.length_map]; omega) rfl) rfl rfl ?_
            refine WL.do (dx_storeO (r := (encS r55.2)) rfl ty_size_27_128 rfl rfl rfl (oc_S r55.2) k27 rfl (by rw [List.length_map]; omega) (by rw [encS_len]; exact Lr55)) rfl ?_
            rintro _ W78 ⟨k80, o79⟩
            replace k3 := k3.other o79 n31
            replace k8 := k8.other o79 n32
            replace k44 := k44.other o79 n40.symm
            replace k7_12 := k7_12.other o79 n65.symm
            replace k74 := k74.other o79 n66.symm
            clear k27
            replace h1 := h1.only o79 (.tail _ (.tail _ (.tail _ (.head _))))
            replace h2 := h2.only o79 (.tail _ (.tail _ (.tail _ (.head _))))
            replace h3 := h3.only o79 (.tail _ (.tail _ (.tail _ (.head _))))
            replace j28 := j28.only o79 (.tail _ (.tail _ (.tail _ (.head _))))
            replace hB := o79.below hB l33
            replace hL := LL.only hL o79
            rw [← List.map_set] at k80
            refine WL.nil ?_
            refine hK53 ?_
            refine WC.region ?_
            refine WL.val (dx_move rfl rfl) rfl rfl ?_
            refine WL.val (dx_add (r := (i : Int) + 1) rfl rfl rfl (wrap64_id (by omega))) rfl rfl ?_
            refine WL.val (dx_assign rfl rfl) rfl rfl ?_
            refine WL.nil ?_
            replace hL := hL.less (fun x hx => (.tail _ (.tail _ hx)))
            replace h1 := h1.less (fun x hx => (.tail _ (.tail _ hx)))
            replace h2 := h2.less (fun x hx => (.tail _ (.tail _ hx)))
            replace h3 := h3.less (fun x hx => (.tail _ (.tail _ hx)))
            replace j28 := j28.less (fun x hx => (.tail _ (.tail _ hx)))
            exact hK47 (i + 1) (cur.set r55.1.toNat r55.2) ⟨(by omega), (by rw [hv]; exact fstep_z e56 (by omega) e58 (by assumption)), (by rw [List.length_set]; exact hc), hB, hL, h1, h2, h3, j28, k3, k8, k80, k44⟩ (by omega) (by repeat first | exact trivial | exact And.intro rfl trivial | refine And.intro rfl ?_ | refine And.intro (congrArg (fun z : Int => some (Value.int .i64 z)) (by omega)) ?_)
          ·
            replace c77 := of_decide_eq_false c77
            refine WC.seq fun K81 hK81 => ?_
            refine WC.region ?_
            refine WL.val (dx_eql rfl rfl rfl) rfl rfl ?_
            refine WL.val (dx_assign rfl rfl) rfl rfl ?_
            refine WL.nil ?_
            refine hK81 ?_
            refine WC.cond rfl (fun c82 => ?_) (fun c82 => ?_)
            ·
              replace c82 := of_decide_eq_true c82
              obtain ⟨r83, e84⟩ : ∃ x, cur[r55.1.toNat]? = some x := ⟨_, List.getElem?_eq_getElem (by omega)⟩
              have Lr83 := ows_S k27 e84
              refine WC.drawM 17 [(some 56, .is (.pointer (some ⟨W30.heap.size, 0, none⟩))), (some 57, .is (u24)), (some 58, .is (.pointer (some ⟨B7_12, 0, none⟩))), (some 59, .is (.int .i64 r55.1)), (some 60, .is (.pointer (some ⟨B7_12, 1, none⟩))), (some 61, .is (.agg (encS r55.2).toArray)), (some 62, .is (.pointer (some ⟨W30.heap.size, 0, none⟩))), (some 63, .is (u24)), (some 64, .is (.pointer (some ⟨B7_12, 0, none⟩))), (some 65, .is (.int .i64 r55.1)), (some 66, .is (.pointer (some ⟨B23, r55.1.toNat * 128, none⟩))), (some 67, .is (.agg (encS r83).toArray)), (some 68, .is (.pointer (some ⟨B7_13, 1, none⟩))), (some 69, .is (.int .u8 r57.2)), (some 70, .is (.int .i64 r57.2)), (some 71, .is (.int .i64 (r57.2 % 128))), (some 72, .is (.agg (encS (tornS r83 r55.2 ((r57.2 % 128).toNat))).toArray))] [[], [0], [], [2], [], [4], [], [6], [], [8], [7, 9], [10], [], [12], [13], [14], [5, 11, 15]] (by kernel_rfl) (by kernel_rfl) (by kernel_rfl) (by kernel_rfl) (by kernel_rfl) (by kernel_rfl) (by kernel_rfl) (by exact trivial) ?_ ?_
              ·
                refine DSteps.cons (fun Wd hd => ?_) ?_
                ·
                  exact DV.dr (dx_fld (o1 := 0) rfl ty_fld_25_0_0 rfl rfl) ⟨Below.refl _ _, rfl⟩
                refine DSteps.cons (fun Wd hd => ?_) ?_
                ·
                  have k44 := k44.below hd
                  exact DV.dr (dx_load rfl ty_one_22 rfl (k44.cell (k := 0) rfl)) ⟨Below.refl _ _, rfl⟩
                refine DSteps.cons (fun Wd hd => ?_) ?_
                ·
                  exact DV.dr (dx_fld (o1 := 0) rfl ty_fld_59_0_0 rfl rfl) ⟨Below.refl _ _, rfl⟩
                refine DSteps.cons (fun Wd hd => ?_) ?_
                ·
                  have k7_12 := k7_12.below hd
                  exact DV.dr (dx_load rfl ty_one_3 rfl (k7_12.cell (k := 0) rfl)) ⟨Below.refl _ _, rfl⟩
                refine DSteps.cons (fun Wd hd => ?_) ?_
                ·
                  exact DV.dr (dx_fld (o1 := 1) rfl ty_fld_59_1_1 rfl rfl) ⟨Below.refl _ _, rfl⟩
                refine DSteps.cons (fun Wd hd => ?_) ?_
                ·
                  have k7_12 := k7_12.below hd
                  exact DV.dr (dx_loadN (cs := (encS r55.2)) rfl ty_agg_27_128 rfl (k7_12.partE (n := 128) (by simp [encW, List.take_of_length_le, encS_len, Lr55])) (by rw [encS_len]; exact Lr55)) ⟨Below.refl _ _, rfl⟩
                refine DSteps.cons (fun Wd hd => ?_) ?_
                ·
                  exact DV.dr (dx_fld (o1 := 0) rfl ty_fld_25_0_0 rfl rfl) ⟨Below.refl _ _, rfl⟩
                refine DSteps.cons (fun Wd hd => ?_) ?_
                ·
                  have k44 := k44.below hd
                  exact DV.dr (dx_load rfl ty_one_22 rfl (k44.cell (k := 0) rfl)) ⟨Below.refl _ _, rfl⟩
                refine DSteps.cons (fun Wd hd => ?_) ?_
                ·
                  exact DV.dr (dx_fld (o1 := 0) rfl ty_fld_59_0_0 rfl rfl) ⟨Below.refl _ _, rfl⟩
                refine DSteps.cons (fun Wd hd => ?_) ?_
                ·
                  have k7_12 := k7_12.below hd
                  exact DV.dr (dx_load rfl ty_one_3 rfl (k7_12.cell (k := 0) rfl)) ⟨Below.refl _ _, rfl⟩
                refine DSteps.cons (fun Wd hd => ?_) ?_
                ·
                  have k27 := k27.below hd
                  exact DV.dr (dx_idxO r55.1.toNat rfl ty_slice_22 rfl rfl k27 (by omega) (by rw [List.length_map]; omega) rfl) ⟨Below.refl _ _, rfl⟩
                refine DSteps.cons (fun Wd hd => ?_) ?_
                ·
                  have k27 := k27.below hd
                  exact DV.dr (dx_loadO rfl ty_agg_27_128 rfl k27 rfl (at_map e84)) ⟨Below.refl _ _, rfl⟩
                refine DSteps.cons (fun Wd hd => ?_) ?_
                ·
                  exact DV.dr (dx_fld (o1 := 1) rfl ty_fld_55_1_1 rfl rfl) ⟨Below.refl _ _, rfl⟩
                refine DSteps.cons (fun Wd hd => ?_) ?_
                ·
                  have k74 := k74.below hd
                  exact DV.dr (dx_load rfl ty_one_5 rfl (k74.cell (k := 1) rfl)) ⟨Below.refl _ _, rfl⟩
                refine DSteps.cons (fun Wd hd => ?_) ?_
                ·
                  exact DV.dr (dx_conv (r := r57.2) rfl Try.underlying5 Try.underlying3 rfl (wrap64_id (by omega))) ⟨Below.refl _ _, rfl⟩
                refine DSteps.cons (fun Wd hd => ?_) ?_
                ·
                  exact DV.dr (dx_rem (r := r57.2 % 128) rfl rfl rfl (by omega) (Int.tmod_eq_emod_of_nonneg (by omega))) ⟨Below.refl _ _, rfl⟩
                refine DSteps.cons (fun Wd hd => ?_) ?_
                ·
                  exact DR.mono (dx_cv rfl Try.func37 rfl rfl rfl ((show CV _ _ [_, _, .int .i64 (r57.2 % 128)] _ (fun v _ => v = .agg (encS (tornS r83 r55.2 ((r57.2 % 128).toNat))).toArray) from (by have := rtorn_v r55.2 r83 ((r57.2 % 128).toNat) Wd [] (LL.nil _) Lr55 Lr83 (by omega); rwa [Int.toNat_of_nonneg (by omega)] at this)))) (fun v W' ⟨h, hb⟩ => ⟨hb, (by rw [h]; exact rfl)⟩)
                exact trivial
              ·
                intro W85 b86
                replace h1 := h1.below b86
                replace h2 := h2.below b86
                replace h3 := h3.below b86
                replace j28 := j28.below b86
                replace k3 := k3.below b86
                replace k8 := k8.below b86
                replace k27 := k27.below b86
                replace k44 := k44.below b86
                replace k7_12 := k7_12.below b86
                replace k74 := k74.below b86
                replace hB := below_then hB b86
                replace hL := LL.below hL b86
                refine WL.val (dx_idxO r55.1.toNat rfl ty_slice_22 rfl rfl k27 (by omega) (by rw [List.length_map]; omega) rfl) rfl rfl ?_
                refine WL.do (dx_storeO (r := (encS (tornS r83 r55.2 ((r57.2 % 128).toNat)))) rfl ty_size_27_128 rfl rfl rfl (oc_S (tornS r83 r55.2 ((r57.2 % 128).toNat))) k27 rfl (by rw [List.length_map]; omega) (by rw [encS_len]; exact (tornS_len Lr83 Lr55 (by omega)))) rfl ?_
                rintro _ W87 ⟨k89, o88⟩
                replace k3 := k3.other o88 n31
                replace k8 := k8.other o88 n32
                replace k44 := k44.other o88 n40.symm
                replace k7_12 := k7_12.other o88 n65.symm
                replace k74 := k74.other o88 n66.symm
                clear k27
                replace h1 := h1.only o88 (.tail _ (.tail _ (.tail _ (.head _))))
                replace h2 := h2.only o88 (.tail _ (.tail _ (.tail _ (.head _))))
                replace h3 := h3.only o88 (.tail _ (.tail _ (.tail _ (.head _))))
                replace j28 := j28.only o88 (.tail _ (.tail _ (.tail _ (.head _))))
                replace hB := o88.below hB l33
                replace hL := LL.only hL o88
                rw [← List.map_set] at k89
                refine WL.nil ?_
                refine hK53 ?_
                refine WC.region ?_
                refine WL.val (dx_move rfl rfl) rfl rfl ?_
                refine WL.val (dx_add (r := (i : Int) + 1) rfl rfl rfl (wrap64_id (by omega))) rfl rfl ?_
                refine WL.val (dx_assign rfl rfl) rfl rfl ?_
                refine WL.nil ?_
                replace hL := hL.less (fun x hx => (.tail _ (.tail _ hx)))
                replace h1 := h1.less (fun x hx => (.tail _ (.tail _ hx)))
                replace h2 := h2.less (fun x hx => (.tail _ (.tail _ hx)))
                replace h3 := h3.less (fun x hx => (.tail _ (.tail _ hx)))
                replace j28 := j28.less (fun x hx => (.tail _ (.tail _ hx)))
                exact hK47 (i + 1) (cur.set r55.1.toNat (tornS r83 r55.2 ((r57.2 % 128).toNat))) ⟨(by omega), (by rw [hv]; exact fstep_t e56 e84 e58 (by assumption) (by assumption)), (by rw [List.length_set]; exact hc), hB, hL, h1, h2, h3, j28, k3, k8, k89, k44⟩ (by omega) (by repeat first | exact trivial | exact And.intro rfl trivial | refine And.intro rfl ?_ | refine And.intro (congrArg (fun z : Int => some (Value.int .i64 z)) (by omega)) ?_)
            ·
              replace c82 := of_decide_eq_false c82
              refine WC.skip ?_
              refine hK53 ?_
              refine WC.region ?_
              refine WL.val (dx_move rfl rfl) rfl rfl ?_
              refine WL.val (dx_add (r := (i : Int) + 1) rfl rfl rfl (wrap64_id (by omega))) rfl rfl ?_
              refine WL.val (dx_assign rfl rfl) rfl rfl ?_
              refine WL.nil ?_
              replace hL := hL.less (fun x hx => (.tail _ (.tail _ hx)))
              replace h1 := h1.less (fun x hx => (.tail _ (.tail _ hx)))
              replace h2 := h2.less (fun x hx => (.tail _ (.tail _ hx)))
              replace h3 := h3.less (fun x hx => (.tail _ (.tail _ hx)))
              replace j28 := j28.less (fun x hx => (.tail _ (.tail _ hx)))
              exact hK47 (i + 1) cur ⟨(by omega), (by rw [hv]; exact fstep_o e56 (by omega) e58 (by assumption) (by assumption)), hc, hB, hL, h1, h2, h3, j28, k3, k8, k27, k44⟩ (by omega) (by repeat first | exact trivial | exact And.intro rfl trivial | refine And.intro rfl ?_ | refine And.intro (congrArg (fun z : Int => some (Value.int .i64 z)) (by omega)) ?_)
      ·
        replace c52 := of_decide_eq_false c52
        refine WC.exit ?_
        refine hK45 ?_
        refine WC.seq fun K90 hK90 => ?_
        refine WC.region ?_
        refine WL.val (dx_fld (o1 := 1) rfl ty_fld_25_1_1 rfl rfl) rfl rfl ?_
        refine WL.do (dx_store (cs' := [u24, .slice none 0 0, .int .i64 fuse, .bool down]) (vs := [.slice none 0 0]) rfl ty_size_23_1 rfl rfl rfl (oc_cons rfl oc_nil) k44 rfl (Nat.le_of_ble_eq_true rfl) rfl) rfl ?_
        rintro _ W91 ⟨k93, o92⟩
        replace k3 := k3.other o92 n38
        replace k8 := k8.other o92 n39
        replace k27 := k27.other o92 n40
        clear k44
        replace h1 := h1.only o92 (.head _)
        replace h2 := h2.only o92 (.head _)
        replace h3 := h3.only o92 (.head _)
        replace j28 := j28.only o92 (.head _)
        replace hB := o92.below hB l41
        replace hL := LL.only hL o92
        refine WL.nil ?_
        refine hK90 ?_
        refine WC.seq fun K94 hK94 => ?_
        refine WC.region ?_
        refine WL.val (dx_fld (o1 := 3) rfl ty_fld_25_3_3 rfl rfl) rfl rfl ?_
        refine WL.do (dx_store (cs' := [u24, .slice none 0 0, .int .i64 fuse, .bool false]) (vs := [.bool false]) rfl ty_size_4_1 rfl rfl rfl (oc_cons rfl oc_nil) k93 rfl (Nat.le_of_ble_eq_true rfl) rfl) rfl ?_
        rintro _ W95 ⟨k97, o96⟩
        replace k3 := k3.other o96 n38
        replace k8 := k8.other o96 n39
        replace k27 := k27.other o96 n40
        clear k93
        replace h1 := h1.only o96 (.head _)
        replace h2 := h2.only o96 (.head _)
        replace h3 := h3.only o96 (.head _)
        replace j28 := j28.only o96 (.head _)
        replace hB := o96.below hB l41
        replace hL := LL.only hL o96
        refine WL.nil ?_
        refine hK94 ?_
        refine WC.seq fun K98 hK98 => ?_
        refine WC.region ?_
        refine WL.val (dx_loadN rfl ty_agg_25_4 rfl k97.range rfl) rfl rfl ?_
        refine WL.val (dx_move rfl rfl) rfl rfl ?_
        refine WL.get (dx_cv rfl Try.func23 rfl rfl rfl (rarm_v cur [] fuse false _ _ n W95 [] (LL.nil _) (k27.rd (L := []) (by simp)) (RdF.nil (by decide)))) rfl rfl ?_
        rintro _ W100 ⟨rfl, b99⟩
        replace h1 := h1.below b99
        replace h2 := h2.below b99
        replace h3 := h3.below b99
        replace j28 := j28.below b99
        replace k3 := k3.below b99
        replace k8 := k8.below b99
        replace k27 := k27.below b99
        replace k97 := k97.below b99
        replace hB := below_then hB b99
        replace hL := LL.below hL b99
        refine WL.do (dx_store (cs' := [u24, .slice none 0 0, .int .i64 (if n < -1 then -1 else n), .bool false]) (vs := [u24, .slice none 0 0, .int .i64 (if n < -1 then -1 else n), .bool false]) rfl ty_size_25_4 rfl rfl rfl (oc_cons k27.one (oc_cons rfl (oc_cons rfl (oc_cons rfl oc_nil)))) k8 rfl (Nat.le_of_ble_eq_true rfl) rfl) rfl ?_
        rintro _ W101 ⟨k103, o102⟩
        replace k3 := k3.other o102 n11
        replace k27 := k27.other o102 n32.symm
        replace k97 := k97.other o102 n39.symm
        clear k8
        replace h1 := h1.only o102 (.tail _ (.tail _ (.head _)))
        replace h2 := h2.only o102 (.tail _ (.tail _ (.head _)))
        replace h3 := h3.only o102 (.tail _ (.tail _ (.head _)))
        replace j28 := j28.only o102 (.tail _ (.tail _ (.head _)))
        replace hB := o102.below hB l12
        replace hL := LL.only hL o102
        refine WL.val (dx_assign rfl rfl) rfl rfl ?_
        refine WL.nil ?_
        refine hK98 ?_
        refine WC.ret fun a_ ha_ => ?_
        exact hQ (cv_ret2 rfl (.agg rfl ty_agg_25_4 k103.range rfl) (.tmp rfl) (by rw [fall_well (by first | assumption | (simp_all; done) | omega), hv, settle_stop (by omega)]; exact ⟨_, _, rfl, (k27.notin hL0 l33), (RdF.nil (by decide))⟩) hB ha_)
    ·
      replace g51 := of_decide_eq_false g51
      refine WL.off rfl rfl rfl ?_
      refine WL.off rfl rfl rfl ?_
      refine WL.off rfl rfl rfl ?_
      refine WL.val (dx_pick rfl rfl rfl) rfl rfl ?_
      refine WL.nil ?_
      refine hK50 ?_
      refine WC.condF rfl ?_
      refine WC.exit ?_
      refine hK45 ?_
      refine WC.seq fun K104 hK104 => ?_
      refine WC.region ?_
      refine WL.val (dx_fld (o1 := 1) rfl ty_fld_25_1_1 rfl rfl) rfl rfl ?_
      refine WL.do (dx_store (cs' := [u24, .slice none 0 0, .int .i64 fuse, .bool down]) (vs := [.slice none 0 0]) rfl ty_size_23_1 rfl rfl rfl (oc_cons rfl oc_nil) k44 rfl (Nat.le_of_ble_eq_true rfl) rfl) rfl ?_
      rintro _ W105 ⟨k107, o106⟩
      replace k3 := k3.other o106 n38
      replace k8 := k8.other o106 n39
      replace k27 := k27.other o106 n40
      clear k44
      replace h1 := h1.only o106 (.head _)
      replace h2 := h2.only o106 (.head _)
      replace h3 := h3.only o106 (.head _)
      replace j28 := j28.only o106 (.head _)
      replace hB := o106.below hB l41
      replace hL := LL.only hL o106
      refine WL.nil ?_
      refine hK104 ?_
      refine WC.seq fun K108 hK108 => ?_
      refine WC.region ?_
      refine WL.val (dx_fld (o1 := 3) rfl ty_fld_25_3_3 rfl rfl) rfl rfl ?_
      refine WL.do (dx_store (cs' := [u24, .slice none 0 0, .int .i64 fuse, .bool false]) (vs := [.bool false]) rfl ty_size_4_1 rfl rfl rfl (oc_cons rfl oc_nil) k107 rfl (Nat.le_of_ble_eq_true rfl) rfl) rfl ?_
      rintro _ W109 ⟨k111, o110⟩
      replace k3 := k3.other o110 n38
      replace k8 := k8.other o110 n39
      replace k27 := k27.other o110 n40
      clear k107
      replace h1 := h1.only o110 (.head _)
      replace h2 := h2.only o110 (.head _)
      replace h3 := h3.only o110 (.head _)
      replace j28 := j28.only o110 (.head _)
      replace hB := o110.below hB l41
      replace hL := LL.only hL o110
      refine WL.nil ?_
      refine hK108 ?_
      refine WC.seq fun K112 hK112 => ?_
      refine WC.region ?_
      refine WL.val (dx_loadN rfl ty_agg_25_4 rfl k111.range rfl) rfl rfl ?_
      refine WL.val (dx_move rfl rfl) rfl rfl ?_
      refine WL.get (dx_cv rfl Try.func23 rfl rfl rfl (rarm_v cur [] fuse false _ _ n W109 [] (LL.nil _) (k27.rd (L := []) (by simp)) (RdF.nil (by decide)))) rfl rfl ?_
      rintro _ W114 ⟨rfl, b113⟩
      replace h1 := h1.below b113
      replace h2 := h2.below b113
      replace h3 := h3.below b113
      replace j28 := j28.below b113
      replace k3 := k3.below b113
      replace k8 := k8.below b113
      replace k27 := k27.below b113
      replace k111 := k111.below b113
      replace hB := below_then hB b113
      replace hL := LL.below hL b113
      refine WL.do (dx_store (cs' := [u24, .slice none 0 0, .int .i64 (if n < -1 then -1 else n), .bool false]) (vs := [u24, .slice none 0 0, .int .i64 (if n < -1 then -1 else n), .bool false]) rfl ty_size_25_4 rfl rfl rfl (oc_cons k27.one (oc_cons rfl (oc_cons rfl (oc_cons rfl oc_nil)))) k8 rfl (Nat.le_of_ble_eq_true rfl) rfl) rfl ?_
      rintro _ W115 ⟨k117, o116⟩
      replace k3 := k3.other o116 n11
      replace k27 := k27.other o116 n32.symm
      replace k111 := k111.other o116 n39.symm
      clear k8
      replace h1 := h1.only o116 (.tail _ (.tail _ (.head _)))
      replace h2 := h2.only o116 (.tail _ (.tail _ (.head _)))
      replace h3 := h3.only o116 (.tail _ (.tail _ (.head _)))
      replace j28 := j28.only o116 (.tail _ (.tail _ (.head _)))
      replace hB := o116.below hB l12
      replace hL := LL.only hL o116
      refine WL.val (dx_assign rfl rfl) rfl rfl ?_
      refine WL.nil ?_
      refine hK112 ?_
      refine WC.ret fun a_ ha_ => ?_
      exact hQ (cv_ret2 rfl (.agg rfl ty_agg_25_4 k117.range rfl) (.tmp rfl) (by rw [fall_well (by first | assumption | (simp_all; done) | omega), hv, settle_stop (by omega)]; exact ⟨_, _, rfl, (k27.notin hL0 l33), (RdF.nil (by decide))⟩) hB ha_)

set_option maxHeartbeats 1000000 in
theorem diskFalls_v (secs : List (List Int)) (loose : List (Int × List Int)) (fuse : Int) (down : Bool) (s1 s2 : Value) (fv : Value) (fs : List (Int × Int)) (n : Int) (w : World) (L : List Nat) (hL : LL L w) (h1 : RdF 128 L w s1 (secs.map encS)) (h2 : RdF 129 L w s2 (loose.map encW)) (h3 : RdF 2 L w fv (fs.map encF))  (hL0 : LL L w) (hfu : -9223372036854775808 ≤ fuse ∧ fuse ≤ 9223372036854775807) (hfs : ∀ f ∈ fs, 0 ≤ f.1 ∧ f.1 ≤ 255 ∧ 0 ≤ f.2 ∧ f.2 ≤ 255) : CV Try.prog 4 [.agg #[s1, s2, .int .i64 fuse, .bool down], fv, .int .i64 n] w fun v W => v = .bool true := by
  refine cv_enter (N := 83) (f := [(0, .agg #[s1, s2, .int .i64 fuse, .bool down]), (1, fv), (2, .int .i64 n)]) Try.func4 rfl rfl rfl rfl fun Q hQ hE => ?_
  have hB := Below.refl w.heap.size w
  have h1m : secs.length ≤ maxLen := by have := h1.len; rwa [List.length_map] at this
  unfold maxLen at h1m
  have h2m : loose.length ≤ maxLen := by have := h2.len; rwa [List.length_map] at this
  unfold maxLen at h2m
  have h3m : fs.length ≤ maxLen := by have := h3.len; rwa [List.length_map] at this
  unfold maxLen at h3m
  refine WC.seq fun K1 hK1 => ?_
  refine WC.region ?_
  refine WL.get (dx_box rfl rfl rfl) rfl rfl ?_
  rintro _ W2 ⟨rfl, k3, b4, z5⟩
  have l6 := hB.size
  replace h1 := h1.more b4 (Nat.le_refl _)
  replace h2 := h2.more b4 (Nat.le_refl _)
  replace h3 := h3.more b4 (Nat.le_refl _)
  replace hB := below_then hB b4
  replace hL := LL.more hL z5
  refine WL.val (dx_assign rfl rfl) rfl rfl ?_
  refine WL.nil ?_
  refine hK1 ?_
  refine WC.seq fun K7 hK7 => ?_
  refine WC.seq fun K8 hK8 => ?_
  refine WC.region ?_
  refine WL.get (dx_cv rfl Try.func8 rfl rfl rfl (alive_v W2 _ hL hL)) rfl rfl ?_
  rintro _ W10 ⟨rfl, b9⟩
  replace h1 := h1.below b9
  replace h2 := h2.below b9
  replace h3 := h3.below b9
  replace k3 := k3.below b9
  replace hB := below_then hB b9
  replace hL := LL.below hL b9
  refine WL.val (dx_not rfl rfl) rfl rfl ?_
  refine WL.nil ?_
  refine hK8 ?_
  refine WC.condF rfl ?_
  refine WC.skip ?_
  refine hK7 ?_
  refine WC.seq fun K11 hK11 => ?_
  refine WC.seq fun K12 hK12 => ?_
  refine WC.region ?_
  refine WL.val (dx_loadN rfl ty_agg_25_4 rfl k3.range rfl) rfl rfl ?_
  refine WL.get (dx_cv rfl Try.func9 rfl rfl rfl (great_v _ _ _ _ _ _ W10 _ hL h1 h2)) rfl rfl ?_
  rintro _ W14 ⟨rfl, b13⟩
  replace h1 := h1.below b13
  replace h2 := h2.below b13
  replace h3 := h3.below b13
  replace k3 := k3.below b13
  replace hB := below_then hB b13
  replace hL := LL.below hL b13
  refine WL.val (dx_move rfl rfl) rfl rfl ?_
  refine WL.split 20 rfl (fun g15 => ?_) (fun g15 => ?_)
  ·
    refine WL.off rfl rfl rfl ?_
    refine WL.off rfl rfl rfl ?_
    refine WL.off rfl rfl rfl ?_
    refine WL.val (dx_pick rfl rfl rfl) rfl rfl ?_
    refine WL.nil ?_
    refine hK12 ?_
    refine WC.condT rfl ?_
    refine WC.seq fun K16 hK16 => ?_
    refine WC.region ?_
    refine WL.val (dx_assign rfl rfl) rfl rfl ?_
    refine WL.nil ?_
    refine hK16 ?_
    refine WC.ret fun a_ ha_ => ?_
    exact hQ (cv_ret1 rfl (.tmp rfl) rfl hB ha_)
  ·
    obtain ⟨hg1, hg2⟩ := great_f g15
    refine WL.val (dx_move rfl rfl) rfl rfl ?_
    refine WL.val (dx_lenM rfl ty_slice_38 rfl h3) rfl rfl ?_
    refine WL.val (dx_gtr rfl rfl rfl) rfl rfl ?_
    refine WL.val (dx_pick rfl rfl rfl) rfl rfl ?_
    refine WL.nil ?_
    refine hK12 ?_
    refine WC.cond rfl (fun c17 => ?_) (fun c17 => ?_)
    ·
      replace c17 := of_decide_eq_true c17
      refine WC.seq fun K18 hK18 => ?_
      refine WC.region ?_
      refine WL.val (dx_assign rfl rfl) rfl rfl ?_
      refine WL.nil ?_
      refine hK18 ?_
      refine WC.ret fun a_ ha_ => ?_
      exact hQ (cv_ret1 rfl (.tmp rfl) rfl hB ha_)
    ·
      replace c17 := of_decide_eq_false c17
      refine WC.skip ?_
      refine hK11 ?_
      refine WC.seq fun K19 hK19 => ?_
      refine WC.region ?_
      refine WL.val (dx_loadN rfl ty_agg_25_4 rfl k3.range rfl) rfl rfl ?_
      refine WL.get (dx_cv rfl Try.func10 rfl rfl rfl (rcopy_v secs loose fuse down _ _ W14 _ hL h1 h2 hL (by omega) (by omega))) rfl rfl ?_
      rintro _ W25 ⟨⟨u20, u21, rfl, j22, j23⟩, b24⟩
      replace h1 := h1.below b24
      replace h2 := h2.below b24
      replace h3 := h3.below b24
      replace k3 := k3.below b24
      replace hB := below_then hB b24
      replace hL := LL.below hL b24
      refine WL.get (dx_alloc rfl ty_zero_25 rfl) rfl rfl ?_
      rintro _ W26 ⟨rfl, k27, b28, z29⟩
      have n30 : w.heap.size ≠ W25.heap.size := Nat.ne_of_lt k3.lt
      have l31 := hB.size
      replace h1 := h1.more b28 (Nat.le_refl _)
      replace h2 := h2.more b28 (Nat.le_refl _)
      replace h3 := h3.more b28 (Nat.le_refl _)
      replace j22 := j22.more b28 (Nat.le_refl _)
      replace j23 := j23.more b28 (Nat.le_refl _)
      replace k3 := k3.below b28
      replace hB := below_then hB b28
      replace hL := LL.more hL z29
      refine WL.do (dx_store (cs' := [u20, u21, .int .i64 fuse, .bool down]) (vs := [u20, u21, .int .i64 fuse, .bool down]) rfl ty_size_25_4 rfl rfl rfl (oc_cons j22.one (oc_cons j23.one (oc_cons rfl (oc_cons rfl oc_nil)))) k27 rfl (Nat.le_of_ble_eq_true rfl) rfl) rfl ?_
      rintro _ W32 ⟨k34, o33⟩
      replace k3 := k3.other o33 n30
      clear k27
      replace h1 := h1.only o33 (.head _)
      replace h2 := h2.only o33 (.head _)
      replace h3 := h3.only o33 (.head _)
      replace j22 := j22.only o33 (.head _)
      replace j23 := j23.only o33 (.head _)
      replace hB := o33.below hB l31
      replace hL := LL.only hL o33
      refine WL.nil ?_
      refine hK19 ?_
      refine WC.seq fun K35 hK35 => ?_
      refine WC.region ?_
      refine WL.val (dx_loadN rfl ty_agg_25_4 rfl k34.range rfl) rfl rfl ?_
      refine WL.val (dx_move rfl rfl) rfl rfl ?_
      refine WL.val (dx_move rfl rfl) rfl rfl ?_
      refine WL.get (dx_cv rfl Try.func18 rfl rfl rfl (fall_v secs loose fuse down _ _ _ fs n W32 _ hL j22 j23 h3 hL hfu hfs)) rfl rfl ?_
      rintro _ W41 ⟨⟨u36, u37, rfl, j38, j39⟩, b40⟩
      replace h1 := h1.below b40
      replace h2 := h2.below b40
      replace h3 := h3.below b40
      replace j22 := j22.below b40
      replace j23 := j23.below b40
      replace k3 := k3.below b40
      replace k34 := k34.below b40
      replace hB := below_then hB b40
      replace hL := LL.below hL b40
      refine WL.val (dx_move rfl rfl) rfl rfl ?_
      refine WL.val (dx_extract rfl rfl rfl) rfl rfl ?_
      refine WL.val (dx_extract rfl rfl rfl) rfl rfl ?_
      refine WL.get (dx_alloc rfl ty_zero_25 rfl) rfl rfl ?_
      rintro _ W42 ⟨rfl, k43, b44, z45⟩
      have n46 : w.heap.size ≠ W41.heap.size := Nat.ne_of_lt k3.lt
      have n47 : W25.heap.size ≠ W41.heap.size := Nat.ne_of_lt k34.lt
      have l48 := hB.size
      replace h1 := h1.more b44 (Nat.le_refl _)
      replace h2 := h2.more b44 (Nat.le_refl _)
      replace h3 := h3.more b44 (Nat.le_refl _)
      replace j22 := j22.more b44 (Nat.le_refl _)
      replace j23 := j23.more b44 (Nat.le_refl _)
      replace j38 := j38.more b44 (Nat.le_refl _)
      replace j39 := j39.more b44 (Nat.le_refl _)
      replace k3 := k3.below b44
      replace k34 := k34.below b44
      replace hB := below_then hB b44
      replace hL := LL.more hL z45
      refine WL.do (dx_store (cs' := [u36, u37, .int .i64 ((fallS secs loose fuse down fs n).fuse), .bool ((fallS secs loose fuse down fs n).down)]) (vs := [u36, u37, .int .i64 ((fallS secs loose fuse down fs n).fuse), .bool ((fallS secs loose fuse down fs n).down)]) rfl ty_size_25_4 rfl rfl rfl (oc_cons j38.one (oc_cons j39.one (oc_cons rfl (oc_cons rfl oc_nil)))) k43 rfl (Nat.le_of_ble_eq_true rfl) rfl) rfl ?_
      rintro _ W49 ⟨k51, o50⟩
      replace k3 := k3.other o50 n46
      replace k34 := k34.other o50 n47
      clear k43
      replace h1 := h1.only o50 (.head _)
      replace h2 := h2.only o50 (.head _)
      replace h3 := h3.only o50 (.head _)
      replace j22 := j22.only o50 (.head _)
      replace j23 := j23.only o50 (.head _)
      replace j38 := j38.only o50 (.head _)
      replace j39 := j39.only o50 (.head _)
      replace hB := o50.below hB l48
      replace hL := LL.only hL o50
      refine WL.val (dx_assign rfl rfl) rfl rfl ?_
      refine WL.nil ?_
      refine hK35 ?_
      refine WC.seq fun K52 hK52 => ?_
      refine WC.region ?_
      refine WL.val (dx_loadN rfl ty_agg_25_4 rfl k3.range rfl) rfl rfl ?_
      refine WL.val (dx_move rfl rfl) rfl rfl ?_
      refine WL.val (dx_move rfl rfl) rfl rfl ?_
      refine WL.get (dx_cv rfl Try.func19 rfl rfl rfl (rfall_v secs loose fuse down _ _ _ fs n W49 _ hL h1 h2 h3 hL hfu hfs)) rfl rfl ?_
      rintro _ W58 ⟨⟨u53, u54, rfl, j55, j56⟩, b57⟩
      replace h1 := h1.below b57
      replace h2 := h2.below b57
      replace h3 := h3.below b57
      replace j22 := j22.below b57
      replace j23 := j23.below b57
      replace j38 := j38.below b57
      replace j39 := j39.below b57
      replace k3 := k3.below b57
      replace k34 := k34.below b57
      replace k51 := k51.below b57
      replace hB := below_then hB b57
      replace hL := LL.below hL b57
      refine WL.val (dx_move rfl rfl) rfl rfl ?_
      refine WL.val (dx_extract rfl rfl rfl) rfl rfl ?_
      refine WL.val (dx_extract rfl rfl rfl) rfl rfl ?_
      refine WL.get (dx_alloc rfl ty_zero_25 rfl) rfl rfl ?_
      rintro _ W59 ⟨rfl, k60, b61, z62⟩
      have n63 : w.heap.size ≠ W58.heap.size := Nat.ne_of_lt k3.lt
      have n64 : W25.heap.size ≠ W58.heap.size := Nat.ne_of_lt k34.lt
      have n65 : W41.heap.size ≠ W58.heap.size := Nat.ne_of_lt k51.lt
      have l66 := hB.size
      replace h1 := h1.more b61 (Nat.le_refl _)
      replace h2 := h2.more b61 (Nat.le_refl _)
      replace h3 := h3.more b61 (Nat.le_refl _)
      replace j22 := j22.more b61 (Nat.le_refl _)
      replace j23 := j23.more b61 (Nat.le_refl _)
      replace j38 := j38.more b61 (Nat.le_refl _)
      replace j39 := j39.more b61 (Nat.le_refl _)
      replace j55 := j55.more b61 (Nat.le_refl _)
      replace j56 := j56.more b61 (Nat.le_refl _)
      replace k3 := k3.below b61
      replace k34 := k34.below b61
      replace k51 := k51.below b61
      replace hB := below_then hB b61
      replace hL := LL.more hL z62
      refine WL.do (dx_store (cs' := [u53, u54, .int .i64 ((fallS secs loose fuse down fs n).fuse), .bool ((fallS secs loose fuse down fs n).down)]) (vs := [u53, u54, .int .i64 ((fallS secs loose fuse down fs n).fuse), .bool ((fallS secs loose fuse down fs n).down)]) rfl ty_size_25_4 rfl rfl rfl (oc_cons j55.one (oc_cons j56.one (oc_cons rfl (oc_cons rfl oc_nil)))) k60 rfl (Nat.le_of_ble_eq_true rfl) rfl) rfl ?_
      rintro _ W67 ⟨k69, o68⟩
      replace k3 := k3.other o68 n63
      replace k34 := k34.other o68 n64
      replace k51 := k51.other o68 n65
      clear k60
      replace h1 := h1.only o68 (.head _)
      replace h2 := h2.only o68 (.head _)
      replace h3 := h3.only o68 (.head _)
      replace j22 := j22.only o68 (.head _)
      replace j23 := j23.only o68 (.head _)
      replace j38 := j38.only o68 (.head _)
      replace j39 := j39.only o68 (.head _)
      replace j55 := j55.only o68 (.head _)
      replace j56 := j56.only o68 (.head _)
      replace hB := o68.below hB l66
      replace hL := LL.only hL o68
      refine WL.val (dx_assign rfl rfl) rfl rfl ?_
      refine WL.nil ?_
      refine hK52 ?_
      refine WC.seq fun K70 hK70 => ?_
      refine WC.region ?_
      refine WL.val (dx_loadN rfl ty_agg_25_4 rfl k34.range rfl) rfl rfl ?_
      refine WL.get (dx_cv rfl Try.func20 rfl rfl rfl (sync_v secs loose fuse down _ _ W67 _ hL j22 j23 hL hfu)) rfl rfl ?_
      rintro _ W76 ⟨⟨u71, u72, rfl, j73, j74⟩, b75⟩
      replace h1 := h1.below b75
      replace h2 := h2.below b75
      replace h3 := h3.below b75
      replace j22 := j22.below b75
      replace j23 := j23.below b75
      replace j38 := j38.below b75
      replace j39 := j39.below b75
      replace j55 := j55.below b75
      replace j56 := j56.below b75
      replace k3 := k3.below b75
      replace k34 := k34.below b75
      replace k51 := k51.below b75
      replace k69 := k69.below b75
      replace hB := below_then hB b75
      replace hL := LL.below hL b75
      refine WL.val (dx_move rfl rfl) rfl rfl ?_
      refine WL.val (dx_extract rfl rfl rfl) rfl rfl ?_
      refine WL.val (dx_extract rfl rfl rfl) rfl rfl ?_
      refine WL.get (dx_alloc rfl ty_zero_25 rfl) rfl rfl ?_
      rintro _ W77 ⟨rfl, k78, b79, z80⟩
      have n81 : w.heap.size ≠ W76.heap.size := Nat.ne_of_lt k3.lt
      have n82 : W25.heap.size ≠ W76.heap.size := Nat.ne_of_lt k34.lt
      have n83 : W41.heap.size ≠ W76.heap.size := Nat.ne_of_lt k51.lt
      have n84 : W58.heap.size ≠ W76.heap.size := Nat.ne_of_lt k69.lt
      have l85 := hB.size
      replace h1 := h1.more b79 (Nat.le_refl _)
      replace h2 := h2.more b79 (Nat.le_refl _)
      replace h3 := h3.more b79 (Nat.le_refl _)
      replace j22 := j22.more b79 (Nat.le_refl _)
      replace j23 := j23.more b79 (Nat.le_refl _)
      replace j38 := j38.more b79 (Nat.le_refl _)
      replace j39 := j39.more b79 (Nat.le_refl _)
      replace j55 := j55.more b79 (Nat.le_refl _)
      replace j56 := j56.more b79 (Nat.le_refl _)
      replace j73 := j73.more b79 (Nat.le_refl _)
      replace j74 := j74.more b79 (Nat.le_refl _)
      replace k3 := k3.below b79
      replace k34 := k34.below b79
      replace k51 := k51.below b79
      replace k69 := k69.below b79
      replace hB := below_then hB b79
      replace hL := LL.more hL z80
      refine WL.do (dx_store (cs' := [u71, u72, .int .i64 ((syncS secs loose fuse down).fuse), .bool ((syncS secs loose fuse down).down)]) (vs := [u71, u72, .int .i64 ((syncS secs loose fuse down).fuse), .bool ((syncS secs loose fuse down).down)]) rfl ty_size_25_4 rfl rfl rfl (oc_cons j73.one (oc_cons j74.one (oc_cons rfl (oc_cons rfl oc_nil)))) k78 rfl (Nat.le_of_ble_eq_true rfl) rfl) rfl ?_
      rintro _ W86 ⟨k88, o87⟩
      replace k3 := k3.other o87 n81
      replace k34 := k34.other o87 n82
      replace k51 := k51.other o87 n83
      replace k69 := k69.other o87 n84
      clear k78
      replace h1 := h1.only o87 (.head _)
      replace h2 := h2.only o87 (.head _)
      replace h3 := h3.only o87 (.head _)
      replace j22 := j22.only o87 (.head _)
      replace j23 := j23.only o87 (.head _)
      replace j38 := j38.only o87 (.head _)
      replace j39 := j39.only o87 (.head _)
      replace j55 := j55.only o87 (.head _)
      replace j56 := j56.only o87 (.head _)
      replace j73 := j73.only o87 (.head _)
      replace j74 := j74.only o87 (.head _)
      replace hB := o87.below hB l85
      replace hL := LL.only hL o87
      refine WL.val (dx_assign rfl rfl) rfl rfl ?_
      refine WL.nil ?_
      refine hK70 ?_
      refine WC.seq fun K89 hK89 => ?_
      refine WC.region ?_
      refine WL.val (dx_loadN rfl ty_agg_25_4 rfl k3.range rfl) rfl rfl ?_
      refine WL.get (dx_cv rfl Try.func21 rfl rfl rfl (rsync_v secs loose fuse down _ _ W86 _ hL h1 h2 hL hfu)) rfl rfl ?_
      rintro _ W95 ⟨⟨u90, u91, rfl, j92, j93⟩, b94⟩
      replace h1 := h1.below b94
      replace h2 := h2.below b94
      replace h3 := h3.below b94
      replace j22 := j22.below b94
      replace j23 := j23.below b94
      replace j38 := j38.below b94
      replace j39 := j39.below b94
      replace j55 := j55.below b94
      replace j56 := j56.below b94
      replace j73 := j73.below b94
      replace j74 := j74.below b94
      replace k3 := k3.below b94
      replace k34 := k34.below b94
      replace k51 := k51.below b94
      replace k69 := k69.below b94
      replace k88 := k88.below b94
      replace hB := below_then hB b94
      replace hL := LL.below hL b94
      refine WL.val (dx_move rfl rfl) rfl rfl ?_
      refine WL.val (dx_extract rfl rfl rfl) rfl rfl ?_
      refine WL.val (dx_extract rfl rfl rfl) rfl rfl ?_
      refine WL.get (dx_alloc rfl ty_zero_25 rfl) rfl rfl ?_
      rintro _ W96 ⟨rfl, k97, b98, z99⟩
      have n100 : w.heap.size ≠ W95.heap.size := Nat.ne_of_lt k3.lt
      have n101 : W25.heap.size ≠ W95.heap.size := Nat.ne_of_lt k34.lt
      have n102 : W41.heap.size ≠ W95.heap.size := Nat.ne_of_lt k51.lt
      have n103 : W58.heap.size ≠ W95.heap.size := Nat.ne_of_lt k69.lt
      have n104 : W76.heap.size ≠ W95.heap.size := Nat.ne_of_lt k88.lt
      have l105 := hB.size
      replace h1 := h1.more b98 (Nat.le_refl _)
      replace h2 := h2.more b98 (Nat.le_refl _)
      replace h3 := h3.more b98 (Nat.le_refl _)
      replace j22 := j22.more b98 (Nat.le_refl _)
      replace j23 := j23.more b98 (Nat.le_refl _)
      replace j38 := j38.more b98 (Nat.le_refl _)
      replace j39 := j39.more b98 (Nat.le_refl _)
      replace j55 := j55.more b98 (Nat.le_refl _)
      replace j56 := j56.more b98 (Nat.le_refl _)
      replace j73 := j73.more b98 (Nat.le_refl _)
      replace j74 := j74.more b98 (Nat.le_refl _)
      replace j92 := j92.more b98 (Nat.le_refl _)
      replace j93 := j93.more b98 (Nat.le_refl _)
      replace k3 := k3.below b98
      replace k34 := k34.below b98
      replace k51 := k51.below b98
      replace k69 := k69.below b98
      replace k88 := k88.below b98
      replace hB := below_then hB b98
      replace hL := LL.more hL z99
      refine WL.do (dx_store (cs' := [u90, u91, .int .i64 ((syncS secs loose fuse down).fuse), .bool ((syncS secs loose fuse down).down)]) (vs := [u90, u91, .int .i64 ((syncS secs loose fuse down).fuse), .bool ((syncS secs loose fuse down).down)]) rfl ty_size_25_4 rfl rfl rfl (oc_cons j92.one (oc_cons j93.one (oc_cons rfl (oc_cons rfl oc_nil)))) k97 rfl (Nat.le_of_ble_eq_true rfl) rfl) rfl ?_
      rintro _ W106 ⟨k108, o107⟩
      replace k3 := k3.other o107 n100
      replace k34 := k34.other o107 n101
      replace k51 := k51.other o107 n102
      replace k69 := k69.other o107 n103
      replace k88 := k88.other o107 n104
      clear k97
      replace h1 := h1.only o107 (.head _)
      replace h2 := h2.only o107 (.head _)
      replace h3 := h3.only o107 (.head _)
      replace j22 := j22.only o107 (.head _)
      replace j23 := j23.only o107 (.head _)
      replace j38 := j38.only o107 (.head _)
      replace j39 := j39.only o107 (.head _)
      replace j55 := j55.only o107 (.head _)
      replace j56 := j56.only o107 (.head _)
      replace j73 := j73.only o107 (.head _)
      replace j74 := j74.only o107 (.head _)
      replace j92 := j92.only o107 (.head _)
      replace j93 := j93.only o107 (.head _)
      replace hB := o107.below hB l105
      replace hL := LL.only hL o107
      refine WL.val (dx_assign rfl rfl) rfl rfl ?_
      refine WL.nil ?_
      refine hK89 ?_
      refine WC.seq fun K109 hK109 => ?_
      refine WC.drawM 32 [(some 51, .is (.agg #[u36, u37, .int .i64 ((fallS secs loose fuse down fs n).fuse), .bool ((fallS secs loose fuse down fs n).down)])), (some 52, .is (.agg #[u53, u54, .int .i64 ((fallS secs loose fuse down fs n).fuse), .bool ((fallS secs loose fuse down fs n).down)])), (some 53, .is (.bool true)), (some 54, .is (.bool true)), (some 55, .is (.int .i64 ((fallS secs loose fuse down fs n).err))), (some 56, .is (.int .i64 ((fallS secs loose fuse down fs n).err))), (some 57, .is (.bool true)), (some 58, .is (.bool true)), (some 59, .is (.bool true)), (some 60, .is (.agg #[u71, u72, .int .i64 ((syncS secs loose fuse down).fuse), .bool ((syncS secs loose fuse down).down)])), (some 61, .is (.agg #[u90, u91, .int .i64 ((syncS secs loose fuse down).fuse), .bool ((syncS secs loose fuse down).down)])), (some 62, .is (.bool true)), (some 63, .is (.bool true)), (some 64, .is (.bool true)), (some 65, .is (.int .i64 ((syncS secs loose fuse down).err))), (some 66, .is (.int .i64 ((syncS secs loose fuse down).err))), (some 67, .is (.bool true)), (some 68, .is (.bool true)), (some 69, .is (.bool true)), (some 70, .is (.agg #[u20, u21, .int .i64 fuse, .bool down])), (some 71, .is (.int .i64 n)), (some 72, .is (.agg #[u20, u21, .int .i64 (if n < -1 then -1 else n), .bool down])), (some 73, .is (.agg #[s1, s2, .int .i64 fuse, .bool down])), (some 74, .is (.int .i64 n)), (some 75, .is (.agg #[s1, s2, .int .i64 (if n < -1 then -1 else n), .bool down])), (some 76, .is (.bool true)), (some 77, .is (.bool true)), (some 78, .is (.bool true)), (some 79, .is (.agg #[u20, u21, .int .i64 fuse, .bool down])), (some 80, .is (.agg #[s1, s2, .int .i64 fuse, .bool down])), (some 81, .is (.bool true)), (some 82, .is (.bool true))] [[], [], [0, 1], [2, 2], [3], [3], [4, 5, 3], [3, 6], [7, 3], [8], [8], [9, 10, 8, 8], [8, 11], [12, 11], [13], [13], [14, 15, 13], [13, 16], [17, 13], [18], [18], [19, 20, 18, 18], [18], [18], [22, 23, 21, 18], [21, 24, 24, 18], [18, 25], [26, 25], [27], [27], [28, 29, 27, 27], [27, 30]] (by kernel_rfl) (by kernel_rfl) (by kernel_rfl) (by kernel_rfl) (by kernel_rfl) (by kernel_rfl) (by kernel_rfl) (by exact trivial) ?_ ?_
      ·
        refine DSteps.cons (fun Wd hd => ?_) ?_
        ·
          have k51 := k51.below hd
          exact DV.dr (dx_loadN rfl ty_agg_25_4 rfl k51.range rfl) ⟨Below.refl _ _, rfl⟩
        refine DSteps.cons (fun Wd hd => ?_) ?_
        ·
          have k69 := k69.below hd
          exact DV.dr (dx_loadN rfl ty_agg_25_4 rfl k69.range rfl) ⟨Below.refl _ _, rfl⟩
        refine DSteps.cons (fun Wd hd => ?_) ?_
        ·
          have j38 := j38.below hd
          have j39 := j39.below hd
          have j55 := j55.below hd
          have j56 := j56.below hd
          exact DR.mono (dx_cv rfl Try.func15 rfl rfl rfl (same_v ((fallS secs loose fuse down fs n).secs) ((fallS secs loose fuse down fs n).loose) ((fallS secs loose fuse down fs n).fuse) ((fallS secs loose fuse down fs n).down) _ _ _ _ Wd _ (LL.below hL hd) j38 j39 j55 j56)) (fun v W' ⟨h, hb⟩ => ⟨hb, (by rw [h]; exact rfl)⟩)
        refine DSteps.cons (fun Wd hd => ?_) ?_
        ·
          exact DV.dr (dx_move rfl rfl) ⟨Below.refl _ _, rfl⟩
        refine DSteps.cons (fun Wd hd => ?_) ?_
        ·
          exact DV.dr (dx_move rfl rfl) ⟨Below.refl _ _, rfl⟩
        refine DSteps.cons (fun Wd hd => ?_) ?_
        ·
          exact DV.dr (dx_move rfl rfl) ⟨Below.refl _ _, rfl⟩
        refine DSteps.cons (fun Wd hd => ?_) ?_
        ·
          exact DV.dr (dv_T (dx_eql rfl rfl rfl) rfl) ⟨Below.refl _ _, rfl⟩
        refine DSteps.cons (fun Wd hd => ?_) ?_
        ·
          exact DV.dr (dx_pick rfl rfl rfl) ⟨Below.refl _ _, rfl⟩
        refine DSteps.cons (fun Wd hd => ?_) ?_
        ·
          exact DV.dr (dx_move rfl rfl) ⟨Below.refl _ _, rfl⟩
        refine DSteps.cons (fun Wd hd => ?_) ?_
        ·
          have k88 := k88.below hd
          exact DV.dr (dx_loadN rfl ty_agg_25_4 rfl k88.range rfl) ⟨Below.refl _ _, rfl⟩
        refine DSteps.cons (fun Wd hd => ?_) ?_
        ·
          have k108 := k108.below hd
          exact DV.dr (dx_loadN rfl ty_agg_25_4 rfl k108.range rfl) ⟨Below.refl _ _, rfl⟩
        refine DSteps.cons (fun Wd hd => ?_) ?_
        ·
          have j73 := j73.below hd
          have j74 := j74.below hd
          have j92 := j92.below hd
          have j93 := j93.below hd
          exact DR.mono (dx_cv rfl Try.func15 rfl rfl rfl (same_v ((syncS secs loose fuse down).secs) ((syncS secs loose fuse down).loose) ((syncS secs loose fuse down).fuse) ((syncS secs loose fuse down).down) _ _ _ _ Wd _ (LL.below hL hd) j73 j74 j92 j93)) (fun v W' ⟨h, hb⟩ => ⟨hb, (by rw [h]; exact rfl)⟩)
        refine DSteps.cons (fun Wd hd => ?_) ?_
        ·
          exact DV.dr (dx_pick rfl rfl rfl) ⟨Below.refl _ _, rfl⟩
        refine DSteps.cons (fun Wd hd => ?_) ?_
        ·
          exact DV.dr (dx_move rfl rfl) ⟨Below.refl _ _, rfl⟩
        refine DSteps.cons (fun Wd hd => ?_) ?_
        ·
          exact DV.dr (dx_move rfl rfl) ⟨Below.refl _ _, rfl⟩
        refine DSteps.cons (fun Wd hd => ?_) ?_
        ·
          exact DV.dr (dx_move rfl rfl) ⟨Below.refl _ _, rfl⟩
        refine DSteps.cons (fun Wd hd => ?_) ?_
        ·
          exact DV.dr (dv_T (dx_eql rfl rfl rfl) rfl) ⟨Below.refl _ _, rfl⟩
        refine DSteps.cons (fun Wd hd => ?_) ?_
        ·
          exact DV.dr (dx_pick rfl rfl rfl) ⟨Below.refl _ _, rfl⟩
        refine DSteps.cons (fun Wd hd => ?_) ?_
        ·
          exact DV.dr (dx_move rfl rfl) ⟨Below.refl _ _, rfl⟩
        refine DSteps.cons (fun Wd hd => ?_) ?_
        ·
          have k34 := k34.below hd
          exact DV.dr (dx_loadN rfl ty_agg_25_4 rfl k34.range rfl) ⟨Below.refl _ _, rfl⟩
        refine DSteps.cons (fun Wd hd => ?_) ?_
        ·
          exact DV.dr (dx_move rfl rfl) ⟨Below.refl _ _, rfl⟩
        refine DSteps.cons (fun Wd hd => ?_) ?_
        ·
          have j22 := j22.below hd
          have j23 := j23.below hd
          exact DR.mono (dx_cv rfl Try.func22 rfl rfl rfl (arm_v secs loose fuse down _ _ n Wd _ (LL.below hL hd) j22 j23)) (fun v W' ⟨h, hb⟩ => ⟨hb, (by rw [h]; exact rfl)⟩)
        refine DSteps.cons (fun Wd hd => ?_) ?_
        ·
          have k3 := k3.below hd
          exact DV.dr (dx_loadN rfl ty_agg_25_4 rfl k3.range rfl) ⟨Below.refl _ _, rfl⟩
        refine DSteps.cons (fun Wd hd => ?_) ?_
        ·
          exact DV.dr (dx_move rfl rfl) ⟨Below.refl _ _, rfl⟩
        refine DSteps.cons (fun Wd hd => ?_) ?_
        ·
          have h1 := h1.below hd
          have h2 := h2.below hd
          exact DR.mono (dx_cv rfl Try.func23 rfl rfl rfl (rarm_v secs loose fuse down _ _ n Wd _ (LL.below hL hd) h1 h2)) (fun v W' ⟨h, hb⟩ => ⟨hb, (by rw [h]; exact rfl)⟩)
        refine DSteps.cons (fun Wd hd => ?_) ?_
        ·
          have h1 := h1.below hd
          have h2 := h2.below hd
          have j22 := j22.below hd
          have j23 := j23.below hd
          exact DR.mono (dx_cv rfl Try.func15 rfl rfl rfl (same_v secs loose (if n < -1 then -1 else n) down _ _ _ _ Wd _ (LL.below hL hd) j22 j23 h1 h2)) (fun v W' ⟨h, hb⟩ => ⟨hb, (by rw [h]; exact rfl)⟩)
        refine DSteps.cons (fun Wd hd => ?_) ?_
        ·
          exact DV.dr (dx_pick rfl rfl rfl) ⟨Below.refl _ _, rfl⟩
        refine DSteps.cons (fun Wd hd => ?_) ?_
        ·
          exact DV.dr (dx_move rfl rfl) ⟨Below.refl _ _, rfl⟩
        refine DSteps.cons (fun Wd hd => ?_) ?_
        ·
          have k34 := k34.below hd
          exact DV.dr (dx_loadN rfl ty_agg_25_4 rfl k34.range rfl) ⟨Below.refl _ _, rfl⟩
        refine DSteps.cons (fun Wd hd => ?_) ?_
        ·
          have k3 := k3.below hd
          exact DV.dr (dx_loadN rfl ty_agg_25_4 rfl k3.range rfl) ⟨Below.refl _ _, rfl⟩
        refine DSteps.cons (fun Wd hd => ?_) ?_
        ·
          have h1 := h1.below hd
          have h2 := h2.below hd
          have j22 := j22.below hd
          have j23 := j23.below hd
          exact DR.mono (dx_cv rfl Try.func15 rfl rfl rfl (same_v secs loose fuse down _ _ _ _ Wd _ (LL.below hL hd) j22 j23 h1 h2)) (fun v W' ⟨h, hb⟩ => ⟨hb, (by rw [h]; exact rfl)⟩)
        refine DSteps.cons (fun Wd hd => ?_) ?_
        ·
          exact DV.dr (dx_pick rfl rfl rfl) ⟨Below.refl _ _, rfl⟩
        exact trivial
      ·
        intro W110 b111
        replace h1 := h1.below b111
        replace h2 := h2.below b111
        replace h3 := h3.below b111
        replace j22 := j22.below b111
        replace j23 := j23.below b111
        replace j38 := j38.below b111
        replace j39 := j39.below b111
        replace j55 := j55.below b111
        replace j56 := j56.below b111
        replace j73 := j73.below b111
        replace j74 := j74.below b111
        replace j92 := j92.below b111
        replace j93 := j93.below b111
        replace k3 := k3.below b111
        replace k34 := k34.below b111
        replace k51 := k51.below b111
        replace k69 := k69.below b111
        replace k88 := k88.below b111
        replace k108 := k108.below b111
        replace hB := below_then hB b111
        replace hL := LL.below hL b111
        refine WL.val (dx_assign rfl rfl) rfl rfl ?_
        refine WL.nil ?_
        refine hK109 ?_
        refine WC.ret fun a_ ha_ => ?_
        exact hQ (cv_ret1 rfl (.tmp rfl) rfl hB ha_)

end Go.Proofs.Ythefddclefimoaa

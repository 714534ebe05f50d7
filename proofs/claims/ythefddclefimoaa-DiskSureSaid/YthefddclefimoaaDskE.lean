/- The reference on disks: New, Same; the law DiskNew. -/
import Derived.Test.YthefddclefimoaaDskC
namespace Go.Proofs.Ythefddclefimoaa
open Go.RowKit
set_option linter.unusedVariables false
set_option linter.unusedSimpArgs false
set_option maxRecDepth 8000

set_option maxHeartbeats 1000000 in
theorem rnew_v (n : Int) (w : World) (L : List Nat) (hL : LL L w)   (hL0 : LL L w) : CV Try.prog 25 [.int .i64 n] w fun v W => ∃ s1' s2', v = .tuple #[.agg #[s1', s2', .int .i64 (newS n).fuse, .bool (newS n).down], .int .i64 (newS n).err] ∧ RdF 128 L W s1' ((newS n).secs.map encS) ∧ RdF 129 L W s2' ((newS n).loose.map encW) := by
  refine cv_enter (N := 14) (f := [(0, .int .i64 n)]) Try.func25 rfl rfl rfl rfl fun Q hQ hE => ?_
  have hB := Below.refl w.heap.size w
  refine WC.seq fun K1 hK1 => ?_
  refine WC.region ?_
  refine WL.get (dx_alloc rfl ty_zero_25 rfl) rfl rfl ?_
  rintro _ W2 ⟨rfl, k3, b4, z5⟩
  have l6 := hB.size
  replace hB := below_then hB b4
  replace hL := LL.more hL z5
  refine WL.val (dx_assign rfl rfl) rfl rfl ?_
  refine WL.nil ?_
  refine hK1 ?_
  refine WC.seq fun K7 hK7 => ?_
  refine WC.seq fun K8 hK8 => ?_
  refine WC.region ?_
  refine WL.val (dx_move rfl rfl) rfl rfl ?_
  refine WL.val (dx_lss rfl rfl rfl) rfl rfl ?_
  refine WL.val (dx_move rfl rfl) rfl rfl ?_
  refine WL.split 6 rfl (fun g9 => ?_) (fun g9 => ?_)
  ·
    replace g9 := of_decide_eq_true g9
    refine WL.off rfl rfl rfl ?_
    refine WL.off rfl rfl rfl ?_
    refine WL.val (dx_pick rfl rfl rfl) rfl rfl ?_
    refine WL.nil ?_
    refine hK8 ?_
    refine WC.condT rfl ?_
    refine WC.seq fun K10 hK10 => ?_
    refine WC.region ?_
    refine WL.val (dx_build rfl rfl (built_of_O (cs := [.slice none 0 0, .slice none 0 0, .int .i64 0, .bool false]) (by kernel_rfl) oc_nil)) rfl rfl ?_
    refine WL.do (dx_store (cs' := [.slice none 0 0, .slice none 0 0, .int .i64 0, .bool false]) (vs := [.slice none 0 0, .slice none 0 0, .int .i64 0, .bool false]) rfl ty_size_25_4 rfl rfl rfl (oc_cons rfl (oc_cons rfl (oc_cons rfl (oc_cons rfl oc_nil)))) k3 rfl (Nat.le_of_ble_eq_true rfl) rfl) rfl ?_
    rintro _ W11 ⟨k13, o12⟩
    clear k3
    replace hB := o12.below hB l6
    replace hL := LL.only hL o12
    refine WL.val (dx_assign rfl rfl) rfl rfl ?_
    refine WL.nil ?_
    refine hK10 ?_
    refine WC.ret fun a_ ha_ => ?_
    exact hQ (cv_ret2 rfl (.agg rfl ty_agg_25_4 k13.range rfl) (.tmp rfl) (by rw [show newS n = ⟨[], [], 0, false, 1⟩ from (by first | (unfold newS; generalize burnS fuse down = bb at *; simp [newS, g9]; done) | (simp [newS, g9]; done))]; exact ⟨_, _, rfl, (RdF.nil (by decide)), (RdF.nil (by decide))⟩) hB ha_)
  ·
    replace g9 := of_decide_eq_false g9
    refine WL.val (dx_move rfl rfl) rfl rfl ?_
    refine WL.val (dx_gtr rfl rfl rfl) rfl rfl ?_
    refine WL.val (dx_pick rfl rfl rfl) rfl rfl ?_
    refine WL.nil ?_
    refine hK8 ?_
    refine WC.cond rfl (fun c14 => ?_) (fun c14 => ?_)
    ·
      replace c14 := of_decide_eq_true c14
      refine WC.seq fun K15 hK15 => ?_
      refine WC.region ?_
      refine WL.val (dx_build rfl rfl (built_of_O (cs := [.slice none 0 0, .slice none 0 0, .int .i64 0, .bool false]) (by kernel_rfl) oc_nil)) rfl rfl ?_
      refine WL.do (dx_store (cs' := [.slice none 0 0, .slice none 0 0, .int .i64 0, .bool false]) (vs := [.slice none 0 0, .slice none 0 0, .int .i64 0, .bool false]) rfl ty_size_25_4 rfl rfl rfl (oc_cons rfl (oc_cons rfl (oc_cons rfl (oc_cons rfl oc_nil)))) k3 rfl (Nat.le_of_ble_eq_true rfl) rfl) rfl ?_
      rintro _ W16 ⟨k18, o17⟩
      clear k3
      replace hB := o17.below hB l6
      replace hL := LL.only hL o17
      refine WL.val (dx_assign rfl rfl) rfl rfl ?_
      refine WL.nil ?_
      refine hK15 ?_
      refine WC.ret fun a_ ha_ => ?_
      exact hQ (cv_ret2 rfl (.agg rfl ty_agg_25_4 k18.range rfl) (.tmp rfl) (by rw [show newS n = ⟨[], [], 0, false, 1⟩ from (by first | (unfold newS; generalize burnS fuse down = bb at *; simp [newS, g9, c14]; done) | (simp [newS, g9, c14]; done))]; exact ⟨_, _, rfl, (RdF.nil (by decide)), (RdF.nil (by decide))⟩) hB ha_)
    ·
      replace c14 := of_decide_eq_false c14
      refine WC.skip ?_
      refine hK7 ?_
      refine WC.seq fun K19 hK19 => ?_
      refine WC.region ?_
      refine WL.val (dx_move rfl rfl) rfl rfl ?_
      refine WL.get (dx_make (r := encS z0) rfl ty_ap_22 (fun e he => by rw [Try.underlying22] at he; cases he; kernel_rfl) rfl rfl (by omega) (by decide) (by omega) (by unfold maxLen; omega)) rfl rfl ?_
      rintro u24 W20 ⟨k21, b22, z23⟩
      rw [← List.map_replicate] at k21
      have n25 : w.heap.size ≠ W2.heap.size := Nat.ne_of_lt k3.lt
      have l26 := hB.size
      replace k3 := k3.below b22
      replace hB := below_then hB b22
      replace hL := LL.more hL z23
      refine WL.val (dx_build rfl rfl (built_of_O (cs := [u24, .slice none 0 0, .int .i64 (-1), .bool false]) (by kernel_rfl) (oc_cons k21.one (oc_cons rfl oc_nil)))) rfl rfl ?_
      refine WL.do (dx_store (cs' := [u24, .slice none 0 0, .int .i64 (-1), .bool false]) (vs := [u24, .slice none 0 0, .int .i64 (-1), .bool false]) rfl ty_size_25_4 rfl rfl rfl (oc_cons k21.one (oc_cons rfl (oc_cons rfl (oc_cons rfl oc_nil)))) k3 rfl (Nat.le_of_ble_eq_true rfl) rfl) rfl ?_
      rintro _ W27 ⟨k29, o28⟩
      replace k21 := k21.other o28 n25.symm
      clear k3
      replace hB := o28.below hB l6
      replace hL := LL.only hL o28
      refine WL.val (dx_assign rfl rfl) rfl rfl ?_
      refine WL.nil ?_
      refine hK19 ?_
      refine WC.ret fun a_ ha_ => ?_
      exact hQ (cv_ret2 rfl (.agg rfl ty_agg_25_4 k29.range rfl) (.tmp rfl) (by rw [show newS n = ⟨List.replicate n.toNat z0, [], (-1), false, 0⟩ from (by first | (unfold newS; generalize burnS fuse down = bb at *; simp [newS, g9, c14]; done) | (simp [newS, g9, c14]; done))]; exact ⟨_, _, rfl, (k21.notin hL0 l26), (RdF.nil (by decide))⟩) hB ha_)

theorem two_map {α β : Type} {g : α → β} {l : List α} {x y : β} (h : l.map g = [x, y]) : ∃ a b, l = [a, b] ∧ g a = x ∧ g b = y := by
  match l, h with
  | [a, b], h => simp at h; exact ⟨a, b, rfl, h.1, h.2⟩
section
variable {ops : Array Oper} {o : Oper} {N : Nat} {f : Fl} {w : World}
theorem run_partW0 (p : Int × List Int) (hl : p.2.length = 128) : (part 3 (encW p).toArray 0).run Try.prog w = .ok (.int .i64 p.1) w := by
  have hagg : (isAgg 3).run Try.prog w = .ok false w := by
    unfold isAgg
    rw [Sem.run_bind, run_underlying Try.underlying3 w]; rfl
  simp [part, Sem.run_bind, hagg, encW]
theorem run_partW1 (p : Int × List Int) (hl : p.2.length = 128) : (part 27 (encW p).toArray 1).run Try.prog w = .ok (aggI .u8 p.2) w := by
  have hagg : (isAgg 27).run Try.prog w = .ok true w := by
    unfold isAgg
    rw [Sem.run_bind, run_underlying Try.underlying27 w]; rfl
  obtain ⟨i, hi, hs⟩ := of_sizeB ty_size_27_128
  simp only [part, Sem.run_bind, hagg, Result.andThen_ok, if_true, sizeOf, typeInfo, run_program, hi, hs, Sem.run_pure]
  congr 2
  apply Array.ext'
  simp [encW, encS]
  rw [List.take_of_length_le (by simp [hl])]
theorem fieldsW : (Try.prog.fieldsOf 59).toList.map (fun f => (f.name == "_", f.type, f.offset)) = [(false, 3, 0), (false, 27, 1)] := by kernel_rfl
theorem run_eqW (p q : Int × List Int) (hp : p.2.length = 128) (hq : q.2.length = 128) : (Op.equalIn 10000 59 (.agg (encW p).toArray) (.agg (encW q).toArray)).run Try.prog w = .ok (decide (p = q)) w := by
  rw [show (10000 : Nat) = 9999 + 1 from rfl, run_equalIn_struct w 9999 59 _ _ (by kernel_rfl) (by kernel_rfl)]
  obtain ⟨f0, f1, hfs, h0, h1⟩ := two_map fieldsW
  rw [hfs]
  simp only [Prod.mk.injEq] at h0 h1
  obtain ⟨n0, t0, o0⟩ := h0
  obtain ⟨n1, t1, o1⟩ := h1
  have m0 : f0.name ≠ "_" := by simpa using n0
  have m1 : f1.name ≠ "_" := by simpa using n1
  have e0 := run_equalIn_int (P := Try.prog) w 9998 3 .i64 .i64 p.1 q.1 Try.underlying3
  have e1 := run_equalI (P := Try.prog) (w := w) 27 5 128 Try.underlying27 .u8 .u8 Try.underlying5 (of_sizeM ty_size_5_1) 9997 p.2 q.2 hp hq
  simp only [Op.eqFields, if_pos m0, if_pos m1, t0, o0, t1, o1, Sem.run_bind, run_partW0 p hp, run_partW0 q hq, Result.andThen_ok]
  rw [show (9999 : Nat) = 9998 + 1 from rfl, e0]
  simp only [Result.andThen_ok]
  by_cases h : p.1 = q.1
  · have hb : (!(p.1 == q.1)) = false := by simp [h]
    simp only [hb, Bool.false_eq_true, if_false, Sem.run_bind, run_partW1 p hp, run_partW1 q hq, Result.andThen_ok]
    rw [show (9998 + 1 : Nat) = 9997 + 2 from rfl, e1]
    simp only [Result.andThen_ok]
    by_cases h2 : p.2 = q.2
    · simp [h2, Prod.ext_iff, h]
    · simp [h2, Prod.ext_iff, h]
  · have hb : (!(p.1 == q.1)) = true := by simp [h]
    simp only [hb, if_true]
    simp [Prod.ext_iff, h]
theorem dx_neqW {t' : TypeId} {x y : Operand} {p q : Int × List Int} (ho : o.op = .binOp .neq 59 x y t') (hx : ev f x = some (.agg (encW p).toArray)) (hy : ev f y = some (.agg (encW q).toArray)) (hp : p.2.length = 128) (hq : q.2.length = 128) (hw : wantF ops o f = some true := by rfl) : DV Try.prog ops o N f w (.bool (!decide (p = q))) := fun a ha => by
  have hx := ha.ev hx
  have hy := ha.ev hy
  have hg : Try.prog.eqGuardType Try.prog.depth 59 = false := by kernel_rfl
  have hgd : (eqGuard .neq 59 x y (.agg (encW p).toArray) (.agg (encW q).toArray)).run Try.prog w = .ok () w := by
    simp [eqGuard, Sem.run_bind, hg]
  exact Does.pure (wantF_of ha hw) _ (by unfold execOp; simp only [ho, hx, hy, Sem.run_bind, hgd, Result.andThen_ok, run_neq_struct, run_eqW p q hp hq, Sem.run_pure]) ⟨rfl, rfl⟩
end
set_option maxHeartbeats 1000000 in
theorem same_v (secs : List (List Int)) (loose : List (Int × List Int)) (fuse : Int) (down : Bool) (s1 s2 t1 t2 : Value) (w : World) (L : List Nat) (hL : LL L w) (h1 : RdF 128 L w s1 (secs.map encS)) (h2 : RdF 129 L w s2 (loose.map encW)) (h3 : RdF 128 L w t1 (secs.map encS)) (h4 : RdF 129 L w t2 (loose.map encW)) : CV Try.prog 15 [.agg #[s1, s2, .int .i64 fuse, .bool down], .agg #[t1, t2, .int .i64 fuse, .bool down]] w fun v W => v = .bool true := by
  refine cv_enter (N := 73) (f := [(0, .agg #[s1, s2, .int .i64 fuse, .bool down]), (1, .agg #[t1, t2, .int .i64 fuse, .bool down])]) Try.func15 rfl rfl rfl rfl fun Q hQ hE => ?_
  have hB := Below.refl w.heap.size w
  have h1m : secs.length ≤ maxLen := by have := h1.len; rwa [List.length_map] at this
  unfold maxLen at h1m
  have h2m : loose.length ≤ maxLen := by have := h2.len; rwa [List.length_map] at this
  unfold maxLen at h2m
  have h3m : secs.length ≤ maxLen := by have := h3.len; rwa [List.length_map] at this
  unfold maxLen at h3m
  have h4m : loose.length ≤ maxLen := by have := h4.len; rwa [List.length_map] at this
  unfold maxLen at h4m
  refine WC.seq fun K1 hK1 => ?_
  refine WC.region ?_
  refine WL.get (dx_box rfl rfl rfl) rfl rfl ?_
  rintro _ W2 ⟨rfl, k3, b4, z5⟩
  have l6 := hB.size
  replace h1 := h1.more b4 (Nat.le_refl _)
  replace h2 := h2.more b4 (Nat.le_refl _)
  replace h3 := h3.more b4 (Nat.le_refl _)
  replace h4 := h4.more b4 (Nat.le_refl _)
  replace hB := below_then hB b4
  replace hL := LL.more hL z5
  refine WL.get (dx_box rfl rfl rfl) rfl rfl ?_
  rintro _ W7 ⟨rfl, k8, b9, z10⟩
  have n11 : w.heap.size ≠ W2.heap.size := Nat.ne_of_lt k3.lt
  have l12 := hB.size
  replace h1 := h1.more b9 (Nat.le_refl _)
  replace h2 := h2.more b9 (Nat.le_refl _)
  replace h3 := h3.more b9 (Nat.le_refl _)
  replace h4 := h4.more b9 (Nat.le_refl _)
  replace k3 := k3.below b9
  replace hB := below_then hB b9
  replace hL := LL.more hL z10
  refine WL.val (dx_assign rfl rfl) rfl rfl ?_
  refine WL.nil ?_
  refine hK1 ?_
  refine WC.seq fun K13 hK13 => ?_
  refine WC.seq fun K14 hK14 => ?_
  refine WC.region ?_
  refine WL.val (dx_fld (o1 := 0) rfl ty_fld_25_0_0 rfl rfl) rfl rfl ?_
  refine WL.val (dx_load rfl ty_one_22 rfl (k3.cell (k := 0) rfl)) rfl rfl ?_
  refine WL.val (dx_lenM rfl ty_slice_22 rfl h1) rfl rfl ?_
  refine WL.val (dx_fld (o1 := 0) rfl ty_fld_25_0_0 rfl rfl) rfl rfl ?_
  refine WL.val (dx_load rfl ty_one_22 rfl (k8.cell (k := 0) rfl)) rfl rfl ?_
  refine WL.val (dx_lenM rfl ty_slice_22 rfl h3) rfl rfl ?_
  refine WL.val (dx_neq rfl rfl rfl) rfl rfl ?_
  refine WL.val (dx_move rfl rfl) rfl rfl ?_
  refine WL.split 14 rfl (fun g15 => ?_) (fun g15 => ?_)
  ·
    replace g15 := bnot_t g15
    exact absurd rfl (of_decide_eq_false g15)
  ·
    replace g15 := bnot_f g15
    replace g15 := of_decide_eq_true g15
    refine WL.val (dx_fld (o1 := 1) rfl ty_fld_25_1_1 rfl rfl) rfl rfl ?_
    refine WL.val (dx_load rfl ty_one_23 rfl (k3.cell (k := 1) rfl)) rfl rfl ?_
    refine WL.val (dx_lenM rfl ty_slice_23 rfl h2) rfl rfl ?_
    refine WL.val (dx_fld (o1 := 1) rfl ty_fld_25_1_1 rfl rfl) rfl rfl ?_
    refine WL.val (dx_load rfl ty_one_23 rfl (k8.cell (k := 1) rfl)) rfl rfl ?_
    refine WL.val (dx_lenM rfl ty_slice_23 rfl h4) rfl rfl ?_
    refine WL.val (dx_neq rfl rfl rfl) rfl rfl ?_
    refine WL.val (dx_pick rfl rfl rfl) rfl rfl ?_
    refine WL.val (dx_move rfl rfl) rfl rfl ?_
    refine WL.split 23 rfl (fun g16 => ?_) (fun g16 => ?_)
    ·
      replace g16 := bnot_t g16
      exact absurd rfl (of_decide_eq_false g16)
    ·
      replace g16 := bnot_f g16
      replace g16 := of_decide_eq_true g16
      refine WL.val (dx_fld (o1 := 2) rfl ty_fld_25_2_2 rfl rfl) rfl rfl ?_
      refine WL.val (dx_load rfl ty_one_3 rfl (k3.cell (k := 2) rfl)) rfl rfl ?_
      refine WL.val (dx_fld (o1 := 2) rfl ty_fld_25_2_2 rfl rfl) rfl rfl ?_
      refine WL.val (dx_load rfl ty_one_3 rfl (k8.cell (k := 2) rfl)) rfl rfl ?_
      refine WL.val (dx_neq rfl rfl rfl) rfl rfl ?_
      refine WL.val (dx_pick rfl rfl rfl) rfl rfl ?_
      refine WL.val (dx_move rfl rfl) rfl rfl ?_
      refine WL.split 30 rfl (fun g17 => ?_) (fun g17 => ?_)
      ·
        replace g17 := bnot_t g17
        exact absurd rfl (of_decide_eq_false g17)
      ·
        replace g17 := bnot_f g17
        replace g17 := of_decide_eq_true g17
        refine WL.val (dx_fld (o1 := 3) rfl ty_fld_25_3_3 rfl rfl) rfl rfl ?_
        refine WL.val (dx_load rfl ty_one_4 rfl (k3.cell (k := 3) rfl)) rfl rfl ?_
        refine WL.val (dx_fld (o1 := 3) rfl ty_fld_25_3_3 rfl rfl) rfl rfl ?_
        refine WL.val (dx_load rfl ty_one_4 rfl (k8.cell (k := 3) rfl)) rfl rfl ?_
        refine WL.val (dx_neqB rfl Try.underlying4 rfl rfl) rfl rfl ?_
        refine WL.val (dx_pick rfl rfl rfl) rfl rfl ?_
        refine WL.nil ?_
        refine hK14 ?_
        refine WC.cond rfl (fun c18 => ?_) (fun c18 => ?_)
        ·
          replace c18 := bnot_t c18
          exact absurd rfl (of_decide_eq_false c18)
        ·
          replace c18 := bnot_f c18
          replace c18 := of_decide_eq_true c18
          refine WC.skip ?_
          refine hK13 ?_
          refine WC.seq fun K19 hK19 => ?_
          refine WC.seq fun K20 hK20 => ?_
          refine WC.region ?_
          refine WL.val (dx_assign rfl rfl) rfl rfl ?_
          refine WL.nil ?_
          refine hK20 ?_
          refine WC.block ?_
          refine WC.loop (fun (i : Nat) => [(2, .pointer (some ⟨w.heap.size, 0, none⟩)), (3, .pointer (some ⟨W2.heap.size, 0, none⟩)), (5, .int .i64 (i : Int))]) (fun (i : Nat) W => i ≤ secs.length ∧ Below w.heap.size w W ∧ LL (W2.heap.size :: w.heap.size :: L) W ∧ RdF 128 (W2.heap.size :: w.heap.size :: L) W s1 (secs.map encS) ∧ RdF 129 (W2.heap.size :: w.heap.size :: L) W s2 (loose.map encW) ∧ RdF 128 (W2.heap.size :: w.heap.size :: L) W t1 (secs.map encS) ∧ RdF 129 (W2.heap.size :: w.heap.size :: L) W t2 (loose.map encW) ∧ Blk W w.heap.size [s1, s2, .int .i64 fuse, .bool down] ∧ Blk W W2.heap.size [t1, t2, .int .i64 fuse, .bool down]) (fun (i : Nat) => secs.length - i) 0 (by repeat first | exact trivial | exact And.intro rfl trivial | refine And.intro rfl ?_ | refine And.intro (congrArg (fun z : Int => some (Value.int .i64 z)) (by omega)) ?_) ⟨Nat.zero_le _, hB, hL, h1, h2, h3, h4, k3, k8⟩ ?_
          clear h1 h2 h3 h4 k3 k8 hB hL
          rintro K21 i W22 ⟨hi, hB, hL, h1, h2, h3, h4, k3, k8⟩ hK21
          refine WC.seq fun K23 hK23 => ?_
          refine WC.seq fun K24 hK24 => ?_
          refine WC.region ?_
          refine WL.val (dx_move rfl rfl) rfl rfl ?_
          refine WL.val (dx_fld (o1 := 0) rfl ty_fld_25_0_0 rfl rfl) rfl rfl ?_
          refine WL.val (dx_load rfl ty_one_22 rfl (k3.cell (k := 0) rfl)) rfl rfl ?_
          refine WL.val (dx_lenM rfl ty_slice_22 rfl h1) rfl rfl ?_
          refine WL.val (dx_lss rfl rfl rfl) rfl rfl ?_
          refine WL.nil ?_
          refine hK24 ?_
          refine WC.cond rfl (fun c25 => ?_) (fun c25 => ?_)
          ·
            replace c25 := of_decide_eq_true c25
            refine WC.skip ?_
            refine hK23 ?_
            refine WC.seq fun K26 hK26 => ?_
            refine WC.block ?_
            refine WC.seq fun K27 hK27 => ?_
            obtain ⟨r28, e29⟩ : ∃ x, secs[i]? = some x := ⟨_, List.getElem?_eq_getElem (by omega)⟩
            have Lr28 := rdf_S h1 e29
            refine WC.drawM 10 [(some 44, .is (.pointer (some ⟨w.heap.size, 0, none⟩))), (some 45, .is (s1)), (some 46, .is (.int .i64 (i : Int))), (some 47, .by fun u W => PtR (W2.heap.size :: w.heap.size :: L) W u (encS r28)), (some 48, .is (.agg (encS r28).toArray)), (some 49, .is (.pointer (some ⟨W2.heap.size, 0, none⟩))), (some 50, .is (t1)), (some 51, .is (.int .i64 (i : Int))), (some 52, .by fun u W => PtR (W2.heap.size :: w.heap.size :: L) W u (encS r28)), (some 53, .is (.agg (encS r28).toArray))] [[], [0], [], [1, 2], [3], [], [5], [], [6, 7], [8]] (by kernel_rfl) (by kernel_rfl) (by kernel_rfl) (by kernel_rfl) (by kernel_rfl) (by kernel_rfl) (by kernel_rfl) ⟨fun _ _ _ hb h => h.below hb, fun _ _ _ hb h => h.below hb, trivial⟩ ?_ ?_
            ·
              refine DSteps.cons (fun Wd hd => ?_) ?_
              ·
                exact DV.dr (dx_fld (o1 := 0) rfl ty_fld_25_0_0 rfl rfl) ⟨Below.refl _ _, rfl⟩
              refine DSteps.cons (fun Wd hd => ?_) ?_
              ·
                have k3 := k3.below hd
                exact DV.dr (dx_load rfl ty_one_22 rfl (k3.cell (k := 0) rfl)) ⟨Below.refl _ _, rfl⟩
              refine DSteps.cons (fun Wd hd => ?_) ?_
              ·
                exact DV.dr (dx_move rfl rfl) ⟨Below.refl _ _, rfl⟩
              refine DSteps.cons (fun Wd hd => ?_) ?_
              ·
                have h1 := h1.below hd
                exact (dx_idxF i rfl ty_slice_22 rfl rfl h1 (by omega) (at_map e29)).mono (fun v W' h => ⟨by rw [← h.1]; exact Below.refl _ _, by rw [← h.1]; exact h.2⟩)
              refine DSteps.cons (fun Wd hd => ?_) ?_
              ·
                intro u6_3 p6_3
                exact DV.dr (dx_loadPN rfl ty_agg_27_128 rfl p6_3 (by rw [encS_len]; exact Lr28)) ⟨Below.refl _ _, rfl⟩
              refine DSteps.cons (fun Wd hd => ?_) ?_
              ·
                exact DV.dr (dx_fld (o1 := 0) rfl ty_fld_25_0_0 rfl rfl) ⟨Below.refl _ _, rfl⟩
              refine DSteps.cons (fun Wd hd => ?_) ?_
              ·
                have k8 := k8.below hd
                exact DV.dr (dx_load rfl ty_one_22 rfl (k8.cell (k := 0) rfl)) ⟨Below.refl _ _, rfl⟩
              refine DSteps.cons (fun Wd hd => ?_) ?_
              ·
                exact DV.dr (dx_move rfl rfl) ⟨Below.refl _ _, rfl⟩
              refine DSteps.cons (fun Wd hd => ?_) ?_
              ·
                have h3 := h3.below hd
                exact (dx_idxF i rfl ty_slice_22 rfl rfl h3 (by omega) (at_map e29)).mono (fun v W' h => ⟨by rw [← h.1]; exact Below.refl _ _, by rw [← h.1]; exact h.2⟩)
              refine DSteps.cons (fun Wd hd => ?_) ?_
              ·
                intro u6_8 p6_8
                exact DV.dr (dx_loadPN rfl ty_agg_27_128 rfl p6_8 (by rw [encS_len]; exact Lr28)) ⟨Below.refl _ _, rfl⟩
              exact trivial
            ·
              intro W30 b31
              intro u6_3 p6_3
              intro u6_8 p6_8
              replace h1 := h1.below b31
              replace h2 := h2.below b31
              replace h3 := h3.below b31
              replace h4 := h4.below b31
              replace k3 := k3.below b31
              replace k8 := k8.below b31
              replace hB := below_then hB b31
              replace hL := LL.below hL b31
              refine WL.val (dx_neqA (K := .u8) (xs := r28) (ys := r28) rfl Try.underlying27 Try.underlying5 ty_size_5_1 (by kernel_rfl) rfl rfl Lr28 Lr28) rfl rfl ?_
              refine WL.nil ?_
              refine hK27 ?_
              refine WC.cond rfl (fun c32 => ?_) (fun c32 => ?_)
              ·
                replace c32 := bnot_t c32
                exact absurd rfl (of_decide_eq_false c32)
              ·
                replace c32 := bnot_f c32
                replace c32 := of_decide_eq_true c32
                refine WC.skip ?_
                refine hK26 ?_
                refine WC.region ?_
                refine WL.val (dx_move rfl rfl) rfl rfl ?_
                refine WL.val (dx_add (r := (i : Int) + 1) rfl rfl rfl (wrap64_id (by omega))) rfl rfl ?_
                refine WL.val (dx_assign rfl rfl) rfl rfl ?_
                refine WL.nil ?_
                exact hK21 (i + 1) ⟨(by omega), hB, hL, h1, h2, h3, h4, k3, k8⟩ (by omega) (by repeat first | exact trivial | exact And.intro rfl trivial | refine And.intro rfl ?_ | refine And.intro (congrArg (fun z : Int => some (Value.int .i64 z)) (by omega)) ?_)
          ·
            replace c25 := of_decide_eq_false c25
            refine WC.exit ?_
            refine hK19 ?_
            refine WC.seq fun K33 hK33 => ?_
            refine WC.seq fun K34 hK34 => ?_
            refine WC.region ?_
            refine WL.val (dx_assign rfl rfl) rfl rfl ?_
            refine WL.nil ?_
            refine hK34 ?_
            refine WC.block ?_
            refine WC.loop (fun (i : Nat) => [(2, .pointer (some ⟨w.heap.size, 0, none⟩)), (3, .pointer (some ⟨W2.heap.size, 0, none⟩)), (6, .int .i64 (i : Int))]) (fun (i : Nat) W => i ≤ loose.length ∧ Below w.heap.size w W ∧ LL (W2.heap.size :: w.heap.size :: L) W ∧ RdF 128 (W2.heap.size :: w.heap.size :: L) W s1 (secs.map encS) ∧ RdF 129 (W2.heap.size :: w.heap.size :: L) W s2 (loose.map encW) ∧ RdF 128 (W2.heap.size :: w.heap.size :: L) W t1 (secs.map encS) ∧ RdF 129 (W2.heap.size :: w.heap.size :: L) W t2 (loose.map encW) ∧ Blk W w.heap.size [s1, s2, .int .i64 fuse, .bool down] ∧ Blk W W2.heap.size [t1, t2, .int .i64 fuse, .bool down]) (fun (i : Nat) => loose.length - i) 0 (by repeat first | exact trivial | exact And.intro rfl trivial | refine And.intro rfl ?_ | refine And.intro (congrArg (fun z : Int => some (Value.int .i64 z)) (by omega)) ?_) ⟨Nat.zero_le _, hB, hL, h1, h2, h3, h4, k3, k8⟩ ?_
            clear h1 h2 h3 h4 k3 k8 hB hL
            rintro K35 i W36 ⟨hi, hB, hL, h1, h2, h3, h4, k3, k8⟩ hK35
            refine WC.seq fun K37 hK37 => ?_
            refine WC.seq fun K38 hK38 => ?_
            refine WC.region ?_
            refine WL.val (dx_move rfl rfl) rfl rfl ?_
            refine WL.val (dx_fld (o1 := 1) rfl ty_fld_25_1_1 rfl rfl) rfl rfl ?_
            refine WL.val (dx_load rfl ty_one_23 rfl (k3.cell (k := 1) rfl)) rfl rfl ?_
            refine WL.val (dx_lenM rfl ty_slice_23 rfl h2) rfl rfl ?_
            refine WL.val (dx_lss rfl rfl rfl) rfl rfl ?_
            refine WL.nil ?_
            refine hK38 ?_
            refine WC.cond rfl (fun c39 => ?_) (fun c39 => ?_)
            ·
              replace c39 := of_decide_eq_true c39
              refine WC.skip ?_
              refine hK37 ?_
              refine WC.seq fun K40 hK40 => ?_
              refine WC.block ?_
              refine WC.seq fun K41 hK41 => ?_
              obtain ⟨r42, e43⟩ : ∃ x, loose[i]? = some x := ⟨_, List.getElem?_eq_getElem (by omega)⟩
              have Lr42 := rdf_W h2 e43
              refine WC.drawM 10 [(some 62, .is (.pointer (some ⟨w.heap.size, 1, none⟩))), (some 63, .is (s2)), (some 64, .is (.int .i64 (i : Int))), (some 65, .by fun u W => PtR (W2.heap.size :: w.heap.size :: L) W u (encW r42)), (some 66, .is (.agg (encW r42).toArray)), (some 67, .is (.pointer (some ⟨W2.heap.size, 1, none⟩))), (some 68, .is (t2)), (some 69, .is (.int .i64 (i : Int))), (some 70, .by fun u W => PtR (W2.heap.size :: w.heap.size :: L) W u (encW r42)), (some 71, .is (.agg (encW r42).toArray))] [[], [0], [], [1, 2], [3], [], [5], [], [6, 7], [8]] (by kernel_rfl) (by kernel_rfl) (by kernel_rfl) (by kernel_rfl) (by kernel_rfl) (by kernel_rfl) (by kernel_rfl) ⟨fun _ _ _ hb h => h.below hb, fun _ _ _ hb h => h.below hb, trivial⟩ ?_ ?_
              ·
                refine DSteps.cons (fun Wd hd => ?_) ?_
                ·
                  exact DV.dr (dx_fld (o1 := 1) rfl ty_fld_25_1_1 rfl rfl) ⟨Below.refl _ _, rfl⟩
                refine DSteps.cons (fun Wd hd => ?_) ?_
                ·
                  have k3 := k3.below hd
                  exact DV.dr (dx_load rfl ty_one_23 rfl (k3.cell (k := 1) rfl)) ⟨Below.refl _ _, rfl⟩
                refine DSteps.cons (fun Wd hd => ?_) ?_
                ·
                  exact DV.dr (dx_move rfl rfl) ⟨Below.refl _ _, rfl⟩
                refine DSteps.cons (fun Wd hd => ?_) ?_
                ·
                  have h2 := h2.below hd
                  exact (dx_idxF i rfl ty_slice_23 rfl rfl h2 (by omega) (at_map e43)).mono (fun v W' h => ⟨by rw [← h.1]; exact Below.refl _ _, by rw [← h.1]; exact h.2⟩)
                refine DSteps.cons (fun Wd hd => ?_) ?_
                ·
                  intro u11_3 p11_3
                  exact DV.dr (dx_loadPN rfl ty_agg_59_129 rfl p11_3 (by simp [encW, encS_len, Lr42])) ⟨Below.refl _ _, rfl⟩
                refine DSteps.cons (fun Wd hd => ?_) ?_
                ·
                  exact DV.dr (dx_fld (o1 := 1) rfl ty_fld_25_1_1 rfl rfl) ⟨Below.refl _ _, rfl⟩
                refine DSteps.cons (fun Wd hd => ?_) ?_
                ·
                  have k8 := k8.below hd
                  exact DV.dr (dx_load rfl ty_one_23 rfl (k8.cell (k := 1) rfl)) ⟨Below.refl _ _, rfl⟩
                refine DSteps.cons (fun Wd hd => ?_) ?_
                ·
                  exact DV.dr (dx_move rfl rfl) ⟨Below.refl _ _, rfl⟩
                refine DSteps.cons (fun Wd hd => ?_) ?_
                ·
                  have h4 := h4.below hd
                  exact (dx_idxF i rfl ty_slice_23 rfl rfl h4 (by omega) (at_map e43)).mono (fun v W' h => ⟨by rw [← h.1]; exact Below.refl _ _, by rw [← h.1]; exact h.2⟩)
                refine DSteps.cons (fun Wd hd => ?_) ?_
                ·
                  intro u11_8 p11_8
                  exact DV.dr (dx_loadPN rfl ty_agg_59_129 rfl p11_8 (by simp [encW, encS_len, Lr42])) ⟨Below.refl _ _, rfl⟩
                exact trivial
              ·
                intro W44 b45
                intro u11_3 p11_3
                intro u11_8 p11_8
                replace h1 := h1.below b45
                replace h2 := h2.below b45
                replace h3 := h3.below b45
                replace h4 := h4.below b45
                replace k3 := k3.below b45
                replace k8 := k8.below b45
                replace hB := below_then hB b45
                replace hL := LL.below hL b45
                refine WL.val (dx_neqW rfl rfl rfl Lr42 Lr42) rfl rfl ?_
                refine WL.nil ?_
                refine hK41 ?_
                refine WC.cond rfl (fun c46 => ?_) (fun c46 => ?_)
                ·
                  replace c46 := bnot_t c46
                  exact absurd rfl (of_decide_eq_false c46)
                ·
                  replace c46 := bnot_f c46
                  replace c46 := of_decide_eq_true c46
                  refine WC.skip ?_
                  refine hK40 ?_
                  refine WC.region ?_
                  refine WL.val (dx_move rfl rfl) rfl rfl ?_
                  refine WL.val (dx_add (r := (i : Int) + 1) rfl rfl rfl (wrap64_id (by omega))) rfl rfl ?_
                  refine WL.val (dx_assign rfl rfl) rfl rfl ?_
                  refine WL.nil ?_
                  exact hK35 (i + 1) ⟨(by omega), hB, hL, h1, h2, h3, h4, k3, k8⟩ (by omega) (by repeat first | exact trivial | exact And.intro rfl trivial | refine And.intro rfl ?_ | refine And.intro (congrArg (fun z : Int => some (Value.int .i64 z)) (by omega)) ?_)
            ·
              replace c39 := of_decide_eq_false c39
              refine WC.exit ?_
              refine hK33 ?_
              refine WC.seq fun K47 hK47 => ?_
              refine WC.region ?_
              refine WL.val (dx_assign rfl rfl) rfl rfl ?_
              refine WL.nil ?_
              refine hK47 ?_
              refine WC.ret fun a_ ha_ => ?_
              exact hQ (cv_ret1 rfl (.tmp rfl) rfl hB ha_)

set_option maxHeartbeats 1000000 in
theorem diskNew_v (n : Int) (w : World) (L : List Nat) (hL : LL L w)   (hL0 : LL L w) (hn : -9223372036854775808 ≤ n ∧ n ≤ 9223372036854775807) : CV Try.prog 5 [.int .i64 n] w fun v W => v = .bool true := by
  refine cv_enter (N := 27) (f := [(0, .int .i64 n)]) Try.func5 rfl rfl rfl rfl fun Q hQ hE => ?_
  have hB := Below.refl w.heap.size w
  refine WC.seq fun K1 hK1 => ?_
  refine WC.region ?_
  refine WL.val (dx_assign rfl rfl) rfl rfl ?_
  refine WL.nil ?_
  refine hK1 ?_
  refine WC.seq fun K2 hK2 => ?_
  refine WC.seq fun K3 hK3 => ?_
  refine WC.region ?_
  refine WL.get (dx_cv rfl Try.func8 rfl rfl rfl (alive_v w _ hL hL)) rfl rfl ?_
  rintro _ W5 ⟨rfl, b4⟩
  replace hB := below_then hB b4
  replace hL := LL.below hL b4
  refine WL.val (dx_not rfl rfl) rfl rfl ?_
  refine WL.nil ?_
  refine hK3 ?_
  refine WC.condF rfl ?_
  refine WC.skip ?_
  refine hK2 ?_
  refine WC.seq fun K6 hK6 => ?_
  refine WC.region ?_
  refine WL.val (dx_move rfl rfl) rfl rfl ?_
  refine WL.get (dx_cv rfl Try.func24 rfl rfl rfl (new_v n W5 _ hL hL)) rfl rfl ?_
  rintro _ W12 ⟨⟨u7, u8, rfl, j9, j10⟩, b11⟩
  replace hB := below_then hB b11
  replace hL := LL.below hL b11
  refine WL.val (dx_move rfl rfl) rfl rfl ?_
  refine WL.val (dx_extract rfl rfl rfl) rfl rfl ?_
  refine WL.val (dx_extract rfl rfl rfl) rfl rfl ?_
  refine WL.get (dx_alloc rfl ty_zero_25 rfl) rfl rfl ?_
  rintro _ W13 ⟨rfl, k14, b15, z16⟩
  have l17 := hB.size
  replace j9 := j9.more b15 (Nat.le_refl _)
  replace j10 := j10.more b15 (Nat.le_refl _)
  replace hB := below_then hB b15
  replace hL := LL.more hL z16
  refine WL.do (dx_store (cs' := [u7, u8, .int .i64 ((newS n).fuse), .bool ((newS n).down)]) (vs := [u7, u8, .int .i64 ((newS n).fuse), .bool ((newS n).down)]) rfl ty_size_25_4 rfl rfl rfl (oc_cons j9.one (oc_cons j10.one (oc_cons rfl (oc_cons rfl oc_nil)))) k14 rfl (Nat.le_of_ble_eq_true rfl) rfl) rfl ?_
  rintro _ W18 ⟨k20, o19⟩
  clear k14
  replace j9 := j9.only o19 (.head _)
  replace j10 := j10.only o19 (.head _)
  replace hB := o19.below hB l17
  replace hL := LL.only hL o19
  refine WL.val (dx_assign rfl rfl) rfl rfl ?_
  refine WL.nil ?_
  refine hK6 ?_
  refine WC.seq fun K21 hK21 => ?_
  refine WC.region ?_
  refine WL.val (dx_move rfl rfl) rfl rfl ?_
  refine WL.get (dx_cv rfl Try.func25 rfl rfl rfl (rnew_v n W18 _ hL hL)) rfl rfl ?_
  rintro _ W27 ⟨⟨u22, u23, rfl, j24, j25⟩, b26⟩
  replace j9 := j9.below b26
  replace j10 := j10.below b26
  replace k20 := k20.below b26
  replace hB := below_then hB b26
  replace hL := LL.below hL b26
  refine WL.val (dx_move rfl rfl) rfl rfl ?_
  refine WL.val (dx_extract rfl rfl rfl) rfl rfl ?_
  refine WL.val (dx_extract rfl rfl rfl) rfl rfl ?_
  refine WL.get (dx_alloc rfl ty_zero_25 rfl) rfl rfl ?_
  rintro _ W28 ⟨rfl, k29, b30, z31⟩
  have n32 : W12.heap.size ≠ W27.heap.size := Nat.ne_of_lt k20.lt
  have l33 := hB.size
  replace j9 := j9.more b30 (Nat.le_refl _)
  replace j10 := j10.more b30 (Nat.le_refl _)
  replace j24 := j24.more b30 (Nat.le_refl _)
  replace j25 := j25.more b30 (Nat.le_refl _)
  replace k20 := k20.below b30
  replace hB := below_then hB b30
  replace hL := LL.more hL z31
  refine WL.do (dx_store (cs' := [u22, u23, .int .i64 ((newS n).fuse), .bool ((newS n).down)]) (vs := [u22, u23, .int .i64 ((newS n).fuse), .bool ((newS n).down)]) rfl ty_size_25_4 rfl rfl rfl (oc_cons j24.one (oc_cons j25.one (oc_cons rfl (oc_cons rfl oc_nil)))) k29 rfl (Nat.le_of_ble_eq_true rfl) rfl) rfl ?_
  rintro _ W34 ⟨k36, o35⟩
  replace k20 := k20.other o35 n32
  clear k29
  replace j9 := j9.only o35 (.head _)
  replace j10 := j10.only o35 (.head _)
  replace j24 := j24.only o35 (.head _)
  replace j25 := j25.only o35 (.head _)
  replace hB := o35.below hB l33
  replace hL := LL.only hL o35
  refine WL.val (dx_assign rfl rfl) rfl rfl ?_
  refine WL.nil ?_
  refine hK21 ?_
  refine WC.seq fun K37 hK37 => ?_
  refine WC.region ?_
  refine WL.val (dx_loadN rfl ty_agg_25_4 rfl k20.range rfl) rfl rfl ?_
  refine WL.val (dx_loadN rfl ty_agg_25_4 rfl k36.range rfl) rfl rfl ?_
  refine WL.get (dx_cv rfl Try.func15 rfl rfl rfl (same_v ((newS n).secs) ((newS n).loose) ((newS n).fuse) ((newS n).down) _ _ _ _ W34 _ hL j9 j10 j24 j25)) rfl rfl ?_
  rintro _ W39 ⟨rfl, b38⟩
  replace j9 := j9.below b38
  replace j10 := j10.below b38
  replace j24 := j24.below b38
  replace j25 := j25.below b38
  replace k20 := k20.below b38
  replace k36 := k36.below b38
  replace hB := below_then hB b38
  replace hL := LL.below hL b38
  refine WL.val (dx_move rfl rfl) rfl rfl ?_
  refine WL.val (dx_move rfl rfl) rfl rfl ?_
  refine WL.val (dx_move rfl rfl) rfl rfl ?_
  refine WL.val (dx_eql rfl rfl rfl) rfl rfl ?_
  refine WL.val (dx_pick rfl rfl rfl) rfl rfl ?_
  refine WL.val (dx_assign rfl rfl) rfl rfl ?_
  refine WL.nil ?_
  refine hK37 ?_
  refine WC.ret fun a_ ha_ => ?_
  exact hQ (cv_ret1 rfl (.tmp rfl) (by simp) hB ha_)

end Go.Proofs.Ythefddclefimoaa

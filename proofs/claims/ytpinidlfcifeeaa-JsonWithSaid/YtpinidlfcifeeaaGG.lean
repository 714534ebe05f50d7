/- The reference's With and Without. The law of objects with and without items. -/
import Derived.Test.YtpinidlfcifeeaaGF
namespace Go.Proofs.Ytpinidlfcifeeaa
open Go.RowKit
set_option linter.unusedVariables false
set_option linter.unusedSimpArgs false
set_option maxRecDepth 8000
set_option maxHeartbeats 2000000

theorem hasB_step {g : List ByteArray} {a x : ByteArray} {k : Nat} (hx : g[k]? = some x) : hasB (g.take (k + 1)) a = (hasB (g.take k) a || decide (x = a)) := by
 unfold hasB
 rw [List.take_add_one, hx, List.any_append]
 simp
set_option maxHeartbeats 2000000 in
theorem refWithout_v (n : Nat) (p : Tr) (gs : List ByteArray) (gv : Value) (w : World) (L : List Nat) (hL : LL L w) (htp : RdT (n + 1) L w p) (hgv : RdF 1 L w gv (gs.map eS))  (hz : SzT 1000000 (n + 1) p) (hgl : gs.length ≤ 1000000) : CV Try.prog 27 [.agg #[.int .i64 p.kind, .int .i64 p.num, .string p.text, p.nv, p.iv], gv] w fun v W => ∃ t, v = .agg #[.int .i64 t.kind, .int .i64 t.num, .string t.text, t.nv, t.iv] ∧ t.er = withoutJ gs p.er ∧ RdT (n + 1) L W t := by
 refine cv_enter (N := 68) (f := [(0, .agg #[.int .i64 p.kind, .int .i64 p.num, .string p.text, p.nv, p.iv]), (1, gv)]) Try.func27 rfl rfl rfl rfl fun Q hQ hE => ?_
 have hB := Below.refl w.heap.size w
 have hL0 := hL
 have hgvm : gs.length ≤ maxLen := by have := hgv.len; rwa [List.length_map] at this
 unfold maxLen at hgvm
 refine Sq fun K1 hK1 => ?_
 obtain ⟨hnp, hip, hcp⟩ := htp
 replace hcp : RdTs n (L) w p.items := hcp
 have hpl : p.names.length ≤ 1000000 ∧ p.items.length ≤ 1000000 := ⟨hz.2.1, hz.2.2.1⟩
 refine Rg ?_
 refine Ge (dx_box rfl rfl rfl) rfl rfl ?_
 rintro _ W2 ⟨rfl, k3, b4, z5⟩
 have l6 := hB.size
 replace hgv := hgv.more b4 (Nat.le_refl _)
 replace hnp := hnp.more b4 (Nat.le_refl _)
 replace hip := hip.more b4 (Nat.le_refl _)
 replace hcp := hcp.more b4 (Nat.le_refl _)
 replace hB := below_then hB b4
 replace hL := LL.more hL z5
 refine Ge (dx_alloc rfl ty_zero_26 rfl) rfl rfl ?_
 rintro _ W7 ⟨rfl, k8, b9, z10⟩
 have l12 := hB.size
 replace hgv := hgv.more b9 (Nat.le_refl _)
 replace hnp := hnp.more b9 (Nat.le_refl _)
 replace hip := hip.more b9 (Nat.le_refl _)
 replace hcp := hcp.more b9 (Nat.le_refl _)
 replace k3 := k3.below b9
 replace hB := below_then hB b9
 replace hL := LL.more hL z10
 refine Ni (hK1 (Sq fun K13 hK13 => (Sq fun K14 hK14 => (Rg (Va (dx_loadN rfl ty_agg_26_5 rfl k3.range rfl) rfl rfl ?_)))))
 refine Ge (dx_cv rfl Try.func19 rfl rfl rfl (rRight_v n p W7 _ hL (show RdT (n + 1) (W2.heap.size :: w.heap.size :: L) W7 p from ⟨hnp, hip, hcp⟩) hz)) rfl rfl ?_
 rintro _ W16 ⟨rfl, b15⟩
 replace hgv := hgv.below b15
 replace hnp := hnp.below b15
 replace hip := hip.below b15
 replace hcp := hcp.below b15
 replace k3 := k3.below b15
 replace k8 := k8.below b15
 replace hB := below_then hB b15
 replace hL := LL.below hL b15
 refine Va (dx_not rfl rfl) rfl rfl (Pu rfl ?_)
 refine WL.split 12 rfl (fun g17 => ?_) (fun g17 => ?_)
 ·
  replace g17 := bnot_t g17
  refine Of rfl (Of rfl (Of rfl (Pu rfl (Ni (hK14 (WC.condT rfl (Sq fun K18 hK18 => ?_)))))))
  refine Rg (Va (dx_loadN rfl ty_agg_26_5 rfl k3.range rfl) rfl rfl ?_)
  refine WL.do (dx_store (cs' := [.int .i64 p.kind, .int .i64 p.num, .string p.text, p.nv, p.iv]) (vs := [.int .i64 p.kind, .int .i64 p.num, .string p.text, p.nv, p.iv]) rfl ty_size_26_5 rfl rfl rfl (oc_cons rfl (oc_cons rfl (oc_cons rfl (oc_cons hnp.one (oc_cons hip.one oc_nil))))) k8 rfl (Nat.le_of_ble_eq_true rfl) rfl) rfl ?_
  rintro _ W19 ⟨k21, o20⟩
  clear k8
  replace hnp := hnp.only o20 (.head _)
  replace hip := hip.only o20 (.head _)
  replace hcp := hcp.only o20 (.head _)
  replace hB := o20.below hB l12
  refine Ni (hK18 ?_)
  exact WC.ret fun a_ ha_ => hQ (cv_ret1 rfl (.agg rfl ty_agg_26_5 k21.range rfl) ⟨p, rfl, (by unfold withoutJ; rw [if_neg (by rw [er_kind, Bool.and_eq_true, decide_eq_true_eq]; rintro ⟨q1_, q2_⟩; simp_all)]), ((show RdT (n + 1) (W2.heap.size :: w.heap.size :: L) W19 p from ⟨hnp, hip, hcp⟩).less (fun x hx => (.tail _ (.tail _ hx))))⟩ hB ha_)
 ·
  replace g17 := bnot_f g17
  refine Va (dx_fld (o1 := 0) rfl ty_fld_26_0_0 rfl rfl) rfl rfl (Va (dx_load rfl ty_one_3 rfl (k3.cell (k := 0) rfl)) rfl rfl (Va (dx_neq rfl rfl rfl) rfl rfl (Pu rfl (Ni (hK14 ?_)))))
  refine WC.cond rfl (fun c22 => ?_) (fun c22 => ?_)
  ·
   replace c22 := bnot_t c22
   replace c22 := dF c22
   refine Sq fun K23 hK23 => (Rg (Va (dx_loadN rfl ty_agg_26_5 rfl k3.range rfl) rfl rfl ?_))
   refine WL.do (dx_store (cs' := [.int .i64 p.kind, .int .i64 p.num, .string p.text, p.nv, p.iv]) (vs := [.int .i64 p.kind, .int .i64 p.num, .string p.text, p.nv, p.iv]) rfl ty_size_26_5 rfl rfl rfl (oc_cons rfl (oc_cons rfl (oc_cons rfl (oc_cons hnp.one (oc_cons hip.one oc_nil))))) k8 rfl (Nat.le_of_ble_eq_true rfl) rfl) rfl ?_
   rintro _ W24 ⟨k26, o25⟩
   clear k8
   replace hnp := hnp.only o25 (.head _)
   replace hip := hip.only o25 (.head _)
   replace hcp := hcp.only o25 (.head _)
   replace hB := o25.below hB l12
   refine Ni (hK23 ?_)
   exact WC.ret fun a_ ha_ => hQ (cv_ret1 rfl (.agg rfl ty_agg_26_5 k26.range rfl) ⟨p, rfl, (by unfold withoutJ; rw [if_neg (by rw [er_kind, Bool.and_eq_true, decide_eq_true_eq]; rintro ⟨q1_, q2_⟩; simp_all)]), ((show RdT (n + 1) (W2.heap.size :: w.heap.size :: L) W24 p from ⟨hnp, hip, hcp⟩).less (fun x hx => (.tail _ (.tail _ hx))))⟩ hB ha_)
  ·
   replace c22 := bnot_f c22
   replace c22 := dT c22
   refine WC.skip (hK13 (Sq fun K27 hK27 => ?_))
   have hro : (decide (p.er.kind = 6) && rightJ upB 12 p.er) = true := by rw [er_kind, Bool.and_eq_true, decide_eq_true_eq]; constructor <;> first | assumption | omega | simp_all
   have hko := of_decide_eq_true (Bool.and_eq_true_iff.1 hro).1
   obtain ⟨hris, hlen⟩ := obj_right hko (Bool.and_eq_true_iff.1 hro).2
   rw [er_names, er_items, List.length_map] at hlen
   refine Rg (Va (dx_build rfl rfl (built_of_O (cs := [.int .i64 6, .int .i64 0, .string ⟨#[]⟩, .slice none 0 0, .slice none 0 0]) (by kernel_rfl) (oc_cons rfl oc_nil))) rfl rfl ?_)
   refine Ge (dx_alloc rfl ty_zero_26 rfl) rfl rfl ?_
   rintro _ W28 ⟨rfl, k29, b30, z31⟩
   have n32 : w.heap.size ≠ W16.heap.size := Nat.ne_of_lt k3.lt
   have n33 : W2.heap.size ≠ W16.heap.size := Nat.ne_of_lt k8.lt
   have l34 := hB.size
   replace hgv := hgv.more b30 (Nat.le_refl _)
   replace hnp := hnp.more b30 (Nat.le_refl _)
   replace hip := hip.more b30 (Nat.le_refl _)
   replace hcp := hcp.more b30 (Nat.le_refl _)
   replace k3 := k3.below b30
   replace k8 := k8.below b30
   replace hB := below_then hB b30
   replace hL := LL.more hL z31
   refine WL.do (dx_store (cs' := [.int .i64 6, .int .i64 0, .string ⟨#[]⟩, .slice none 0 0, .slice none 0 0]) (vs := [.int .i64 6, .int .i64 0, .string ⟨#[]⟩, .slice none 0 0, .slice none 0 0]) rfl ty_size_26_5 rfl rfl rfl (oc_cons rfl (oc_cons rfl (oc_cons rfl (oc_cons rfl (oc_cons rfl oc_nil))))) k29 rfl (Nat.le_of_ble_eq_true rfl) rfl) rfl ?_
   rintro _ W35 ⟨k37, o36⟩
   replace k3 := k3.other o36 n32
   replace k8 := k8.other o36 n33
   clear k29
   replace hgv := hgv.only o36 (.head _)
   replace hnp := hnp.only o36 (.head _)
   replace hip := hip.only o36 (.head _)
   replace hcp := hcp.only o36 (.head _)
   replace hB := o36.below hB l34
   replace hL := LL.only hL o36
   refine Ni (hK27 (Sq fun K38 hK38 => (Sq fun K39 hK39 => (Rg (Pu rfl (Ni (hK39 ?_)))))))
   refine WC.block ?_
   obtain ⟨b0, hb0⟩ : ∃ b, b = W35.heap.size := ⟨_, rfl⟩
   have hb0L : ∀ x ∈ (W16.heap.size :: W2.heap.size :: w.heap.size :: L), x < b0 := by rw [hb0]; exact hL
   have hb0w : w.heap.size ≤ b0 := by rw [hb0]; exact hB.size
   have hnp6 := hnp
   have hip6 := hip
   have hgv6 := hgv
   have hcp6 := hcp
   have hag : AgL W35 (W16.heap.size :: W2.heap.size :: w.heap.size :: L) (W16.heap.size :: W2.heap.size :: w.heap.size :: L) W35 := ⟨fun _ h _ => h, ⟨Nat.le_refl _, fun _ _ _ => rfl⟩⟩
   have hm : MembI n b0 (W16.heap.size :: W2.heap.size :: w.heap.size :: L) (.slice none 0 0) (wnN gs (p.names.take 0)) (.slice none 0 0) (wnT gs (p.names.take 0) (p.items.take 0)) W35 := ⟨hb0L, .inl ⟨rfl, rfl, by first | rfl | simp, by first | rfl | simp⟩⟩
   refine WC.loop3 (fun (i : Nat) (nv : Value) (iv : Value) => [(1, gv), (2, .pointer (some ⟨w.heap.size, 0, none⟩)), (4, .pointer (some ⟨W2.heap.size, 0, none⟩)), (5, .pointer (some ⟨W16.heap.size, 0, none⟩)), (6, .int .i64 (i : Int))]) (fun (i : Nat) (nv : Value) (iv : Value) W => i ≤ p.names.length ∧ Below w.heap.size w W ∧ LL (W16.heap.size :: W2.heap.size :: w.heap.size :: L) W ∧ RdF 1 (W16.heap.size :: W2.heap.size :: w.heap.size :: L) W gv (gs.map eS) ∧ RdF 1 (W16.heap.size :: W2.heap.size :: w.heap.size :: L) W p.nv (p.names.map eS) ∧ RdF 5 (W16.heap.size :: W2.heap.size :: w.heap.size :: L) W p.iv (p.items.map encT) ∧ RdTs n (W16.heap.size :: W2.heap.size :: w.heap.size :: L) W p.items ∧ AgL W35 (W16.heap.size :: W2.heap.size :: w.heap.size :: L) (W16.heap.size :: W2.heap.size :: w.heap.size :: L) W ∧ MembI n b0 (W16.heap.size :: W2.heap.size :: w.heap.size :: L) nv (wnN gs (p.names.take i)) iv (wnT gs (p.names.take i) (p.items.take i)) W ∧ Blk W w.heap.size [.int .i64 p.kind, .int .i64 p.num, .string p.text, p.nv, p.iv] ∧ Blk W W2.heap.size [.int .i64 0, .int .i64 0, .string ⟨#[]⟩, .slice none 0 0, .slice none 0 0] ∧ Blk W W16.heap.size [.int .i64 6, .int .i64 0, .string ⟨#[]⟩, nv, iv]) (fun (i : Nat) (nv : Value) (iv : Value) => p.names.length - i) 0 (.slice none 0 0) (.slice none 0 0) (by repeat first | exact trivial | exact And.intro rfl trivial | refine And.intro rfl ?_ | refine And.intro (congrArg (fun z : Int => some (Value.int .i64 z)) (by omega)) ?_ | refine And.intro (congrArg (fun z : Bool => some (Value.bool z)) (by first | exact (decide_eq_true (by omega)).symm | exact (decide_eq_false (by omega)).symm)) ?_) ⟨Nat.zero_le _, hB, hL, hgv, hnp, hip, hcp, hag, hm, k3, k8, k37⟩ ?_
   clear hgv hnp hip hcp hag hm k3 k8 k37 hB hL
   rintro K40 i nv iv W41 ⟨hi, hB, hL, hgv, hnp, hip, hcp, hag, hm, k3, k8, k37⟩ hK40
   refine Sq fun K42 hK42 => (Sq fun K43 hK43 => (Rg (Pu rfl (Va (dx_fld (o1 := 3) rfl ty_fld_26_3_3 rfl rfl) rfl rfl (Va (dx_load rfl ty_one_23 rfl (k3.cell (k := 3) rfl)) rfl rfl (Va (dx_lenFM rfl ty_slice_23 rfl hnp) rfl rfl (Va (dx_lss rfl rfl rfl) rfl rfl ?_)))))))
   refine Ni (hK43 ?_)
   refine WC.cond rfl (fun c44 => ?_) (fun c44 => ?_)
   ·
    replace c44 := dT c44
    refine WC.skip (hK42 (Sq fun K45 hK45 => (WC.block (Sq fun K46 hK46 => (Rg (Pu rfl (Ni ?_)))))))
    refine hK46 (Sq fun K47 hK47 => (Sq fun K48 hK48 => (Rg (Pu rfl (Ni (hK48 (WC.block ?_)))))))
    obtain ⟨r49, e50⟩ : ∃ x, p.names[i]? = some x := ⟨_, List.getElem?_eq_getElem (by omega)⟩
    refine WC.loop2 (fun (k : Nat) (gb : Bool) => [(1, gv), (2, .pointer (some ⟨w.heap.size, 0, none⟩)), (4, .pointer (some ⟨W2.heap.size, 0, none⟩)), (5, .pointer (some ⟨W16.heap.size, 0, none⟩)), (6, .int .i64 (i : Int)), (8, .int .i64 (k : Int)), (7, .bool gb)]) (fun (k : Nat) (gb : Bool) W => k ≤ gs.length ∧ gb = hasB (gs.take k) r49 ∧ Below w.heap.size w W ∧ LL (W16.heap.size :: W2.heap.size :: w.heap.size :: L) W ∧ RdF 1 (W16.heap.size :: W2.heap.size :: w.heap.size :: L) W gv (gs.map eS) ∧ RdF 1 (W16.heap.size :: W2.heap.size :: w.heap.size :: L) W p.nv (p.names.map eS) ∧ RdF 5 (W16.heap.size :: W2.heap.size :: w.heap.size :: L) W p.iv (p.items.map encT) ∧ RdTs n (W16.heap.size :: W2.heap.size :: w.heap.size :: L) W p.items ∧ AgL W35 (W16.heap.size :: W2.heap.size :: w.heap.size :: L) (W16.heap.size :: W2.heap.size :: w.heap.size :: L) W ∧ MembI n b0 (W16.heap.size :: W2.heap.size :: w.heap.size :: L) nv (wnN gs (p.names.take i)) iv (wnT gs (p.names.take i) (p.items.take i)) W ∧ Blk W w.heap.size [.int .i64 p.kind, .int .i64 p.num, .string p.text, p.nv, p.iv] ∧ Blk W W2.heap.size [.int .i64 0, .int .i64 0, .string ⟨#[]⟩, .slice none 0 0, .slice none 0 0] ∧ Blk W W16.heap.size [.int .i64 6, .int .i64 0, .string ⟨#[]⟩, nv, iv]) (fun (k : Nat) (gb : Bool) => gs.length - k) 0 false (by repeat first | exact trivial | exact And.intro rfl trivial | refine And.intro rfl ?_ | refine And.intro (congrArg (fun z : Int => some (Value.int .i64 z)) (by omega)) ?_ | refine And.intro (congrArg (fun z : Bool => some (Value.bool z)) (by first | exact (decide_eq_true (by omega)).symm | exact (decide_eq_false (by omega)).symm)) ?_) ⟨Nat.zero_le _, rfl, hB, hL, hgv, hnp, hip, hcp, hag, hm, k3, k8, k37⟩ ?_
    clear hgv hnp hip hcp hag hm k3 k8 k37 hB hL
    rintro K51 k gb W52 ⟨hk, hgb, hB, hL, hgv, hnp, hip, hcp, hag, hm, k3, k8, k37⟩ hK51
    refine Sq fun K53 hK53 => (Sq fun K54 hK54 => (Rg (Pu rfl (Pu rfl (Va (dx_lenFM rfl ty_slice_23 rfl hgv) rfl rfl (Va (dx_lss rfl rfl rfl) rfl rfl (Ni ?_)))))))
    refine hK54 ?_
    refine WC.cond rfl (fun c55 => ?_) (fun c55 => ?_)
    ·
     replace c55 := dT c55
     refine WC.skip (hK53 (Sq fun K56 hK56 => (WC.block ?_)))
     obtain ⟨g57, hg58⟩ : ∃ x, gs[k]? = some x := ⟨_, List.getElem?_eq_getElem (by omega)⟩
     cases hgv_ : gb
     ·
      rw [hgv_] at hgb
      refine WC.drawM 13 [(some 32, .is (.bool false)), (some 33, .is (.bool false)), (some 34, .is (gv)), (some 35, .is (.int .i64 (k : Int))), (some 36, .by fun u W => PtR (W16.heap.size :: W2.heap.size :: w.heap.size :: L) W u [.string g57]), (some 37, .is (.string g57)), (some 38, .is (.pointer (some ⟨w.heap.size, 3, none⟩))), (some 39, .is (p.nv)), (some 40, .is (.int .i64 (i : Int))), (some 41, .by fun u W => PtR (W16.heap.size :: W2.heap.size :: w.heap.size :: L) W u [.string r49]), (some 42, .is (.string r49)), (some 43, .is (.bool (decide (g57 = r49)))), (some 44, .is (.bool (decide (g57 = r49))))] [[], [0], [1], [1], [2, 3, 1], [4, 1], [1], [6, 1], [1], [7, 8, 1], [9, 1], [5, 10, 1], [1, 11]] (by kernel_rfl) (by kernel_rfl) (by kernel_rfl) (by kernel_rfl) (by kernel_rfl) (by kernel_rfl) (by kernel_rfl) ⟨fun _ _ _ hb h => h.below hb, fun _ _ _ hb h => h.below hb, trivial⟩ ?_ ?_
      ·
       refine Dc (fun Wd hd => ?_) ?_
       ·
        exact Dd (dx_move rfl rfl) rfl
       refine Dc (fun Wd hd => ?_) ?_
       ·
        exact Dd (dx_move rfl rfl) rfl
       refine Dc (fun Wd hd => ?_) ?_
       ·
        exact Dd (dx_move rfl rfl) rfl
       refine Dc (fun Wd hd => ?_) ?_
       ·
        exact Dd (dx_move rfl rfl) rfl
       refine Dc (fun Wd hd => ?_) ?_
       ·
        have hgv := hgv.below hd
        exact (dx_idxF k rfl ty_slice_23 rfl rfl hgv (by omega) (at_mapX hg58)).mono (fun v W' h => ⟨by rw [← h.1]; exact Below.refl _ _, by rw [← h.1]; exact h.2⟩)
       refine Dc (fun Wd hd => ?_) ?_
       ·
        intro u11_4 p11_4
        exact Dd (dx_loadP rfl ty_one_9 rfl p11_4) rfl
       refine Dc (fun Wd hd => ?_) ?_
       ·
        exact Dd (dx_fld (o1 := 3) rfl ty_fld_26_3_3 rfl rfl) rfl
       refine Dc (fun Wd hd => ?_) ?_
       ·
        have k3 := k3.below hd
        exact Dd (dx_load rfl ty_one_23 rfl (k3.cell (k := 3) rfl)) rfl
       refine Dc (fun Wd hd => ?_) ?_
       ·
        exact Dd (dx_move rfl rfl) rfl
       refine Dc (fun Wd hd => ?_) ?_
       ·
        have hnp := hnp.below hd
        exact (dx_idxF i rfl ty_slice_23 rfl rfl hnp (by omega) (at_mapX e50)).mono (fun v W' h => ⟨by rw [← h.1]; exact Below.refl _ _, by rw [← h.1]; exact h.2⟩)
       refine Dc (fun Wd hd => ?_) ?_
       ·
        intro u11_9 p11_9
        exact Dd (dx_loadP rfl ty_one_9 rfl p11_9) rfl
       refine Dc (fun Wd hd => ?_) ?_
       ·
        exact Dd (dx_eqlT rfl rfl rfl) rfl
       refine Dc (fun Wd hd => ?_) ?_
       ·
        exact Dd (dx_pick rfl rfl rfl) rfl
       exact trivial
      ·
       intro W59 b60
       intro u11_4 p11_4
       intro u11_9 p11_9
       replace hgv := hgv.below b60
       replace hnp := hnp.below b60
       replace hip := hip.below b60
       replace hcp := hcp.below b60
       replace hag := hag.below b60
       replace hm := hm.below b60
       replace k3 := k3.below b60
       replace k8 := k8.below b60
       replace k37 := k37.below b60
       replace hB := below_then hB b60
       replace hL := LL.below hL b60
       refine Pu rfl (Ni (hK56 ?_))
       have hgn : hasB (gs.take (k + 1)) r49 = (decide (g57 = r49)) := by rw [hasB_step hg58, ← hgb]; simp
       rw [← hgn]
       refine Rg (Pu rfl (Va (dx_add (r := (k : Int) + 1) rfl rfl rfl (wrap64_id (by omega))) rfl rfl (Pu rfl (Ni ?_))))
       exact hK51 (k + 1) (hasB (gs.take (k + 1)) r49) ⟨(by omega), rfl, hB, hL, hgv, hnp, hip, hcp, hag, hm, k3, k8, k37⟩ (by omega) (by repeat first | exact trivial | exact And.intro rfl trivial | refine And.intro rfl ?_ | refine And.intro (congrArg (fun z : Int => some (Value.int .i64 z)) (by omega)) ?_ | refine And.intro (congrArg (fun z : Bool => some (Value.bool z)) (by first | exact (decide_eq_true (by omega)).symm | exact (decide_eq_false (by omega)).symm)) ?_)
     ·
      rw [hgv_] at hgb
      refine WC.drawM 13 [(some 32, .is (.bool true)), (some 33, .is (.bool true)), (some 34, .is (undef)), (some 35, .is (undef)), (some 36, .is (undef)), (some 37, .is (undef)), (some 38, .is (undef)), (some 39, .is (undef)), (some 40, .is (undef)), (some 41, .is (undef)), (some 42, .is (undef)), (some 43, .is (undef)), (some 44, .is (.bool true))] [[], [0], [1], [1], [2, 3, 1], [4, 1], [1], [6, 1], [1], [7, 8, 1], [9, 1], [5, 10, 1], [1, 11]] (by kernel_rfl) (by kernel_rfl) (by kernel_rfl) (by kernel_rfl) (by kernel_rfl) (by kernel_rfl) (by kernel_rfl) (by exact trivial) ?_ ?_
      ·
       refine Dc (fun Wd hd => ?_) ?_
       ·
        exact Dd (dx_move rfl rfl) rfl
       refine Dc (fun Wd hd => ?_) ?_
       ·
        exact Dd (dx_move rfl rfl) rfl
       refine Dc (fun Wd hd => ?_) ?_
       ·
        exact Dd (dv_off rfl) rfl
       refine Dc (fun Wd hd => ?_) ?_
       ·
        exact Dd (dv_off rfl) rfl
       refine Dc (fun Wd hd => ?_) ?_
       ·
        exact Dd (dv_off rfl) rfl
       refine Dc (fun Wd hd => ?_) ?_
       ·
        exact Dd (dv_off rfl) rfl
       refine Dc (fun Wd hd => ?_) ?_
       ·
        exact Dd (dv_off rfl) rfl
       refine Dc (fun Wd hd => ?_) ?_
       ·
        exact Dd (dv_off rfl) rfl
       refine Dc (fun Wd hd => ?_) ?_
       ·
        exact Dd (dv_off rfl) rfl
       refine Dc (fun Wd hd => ?_) ?_
       ·
        exact Dd (dv_off rfl) rfl
       refine Dc (fun Wd hd => ?_) ?_
       ·
        exact Dd (dv_off rfl) rfl
       refine Dc (fun Wd hd => ?_) ?_
       ·
        exact Dd (dv_off rfl) rfl
       refine Dc (fun Wd hd => ?_) ?_
       ·
        exact Dd (dx_pick rfl rfl rfl) rfl
       exact trivial
      ·
       intro W61 b62
       replace hgv := hgv.below b62
       replace hnp := hnp.below b62
       replace hip := hip.below b62
       replace hcp := hcp.below b62
       replace hag := hag.below b62
       replace hm := hm.below b62
       replace k3 := k3.below b62
       replace k8 := k8.below b62
       replace k37 := k37.below b62
       replace hB := below_then hB b62
       replace hL := LL.below hL b62
       refine Pu rfl (Ni (hK56 ?_))
       have hgn : hasB (gs.take (k + 1)) r49 = true := by rw [hasB_step hg58, ← hgb]; simp
       rw [← hgn]
       refine Rg (Pu rfl (Va (dx_add (r := (k : Int) + 1) rfl rfl rfl (wrap64_id (by omega))) rfl rfl (Pu rfl (Ni ?_))))
       exact hK51 (k + 1) (hasB (gs.take (k + 1)) r49) ⟨(by omega), rfl, hB, hL, hgv, hnp, hip, hcp, hag, hm, k3, k8, k37⟩ (by omega) (by repeat first | exact trivial | exact And.intro rfl trivial | refine And.intro rfl ?_ | refine And.intro (congrArg (fun z : Int => some (Value.int .i64 z)) (by omega)) ?_ | refine And.intro (congrArg (fun z : Bool => some (Value.bool z)) (by first | exact (decide_eq_true (by omega)).symm | exact (decide_eq_false (by omega)).symm)) ?_)
    ·
     replace c55 := dF c55
     refine WC.exit ?_
     refine hK47 (Sq fun K63 hK63 => ?_)
     have hke : k = gs.length := by omega
     rw [hke, List.take_of_length_le (Nat.le_refl _)] at hgb
     refine Rg (Pu rfl (Va (dx_not rfl rfl) rfl rfl (Ni (hK63 ?_))))
     refine WC.cond rfl (fun c64 => ?_) (fun c64 => ?_)
     ·
      replace c64 := bnot_t c64
      replace c64 := bvar_f c64
      refine Sq fun K65 hK65 => ?_
      have hnl := wnN_le gs (p.names.take i)
      have htl := wnT_len gs (p.names.take i) (p.items.take i) (by rw [List.length_take, List.length_take]; omega)
      rw [List.length_take] at hnl
      obtain ⟨-, hm⟩ := hm
      rcases hm with ⟨rfl, rfl, hns0, hts0⟩ | ⟨Bn, Bi, hni, hbn, hbi, hOn, hOi, hts⟩
      ·
       refine WC.drawM 8 [(some 47, .is (.pointer (some ⟨W16.heap.size, 3, none⟩))), (some 48, .is (.slice none 0 0)), (some 49, .is (.pointer (some ⟨w.heap.size, 3, none⟩))), (some 50, .is (p.nv)), (some 51, .is (.int .i64 (i : Int))), (some 52, .by fun u W => PtR (W16.heap.size :: W2.heap.size :: w.heap.size :: L) W u [.string r49]), (some 53, .is (.string r49)), (some 54, .by fun u W => RdF 1 (W16.heap.size :: W2.heap.size :: w.heap.size :: L) W u [[.string r49]])] [[], [0], [], [2], [], [3, 4], [5], [6]] (by kernel_rfl) (by kernel_rfl) (by kernel_rfl) (by kernel_rfl) (by kernel_rfl) (by kernel_rfl) (by kernel_rfl) ⟨fun _ _ _ hb h => h.below hb, fun _ _ _ hb h => h.below hb, trivial⟩ ?_ ?_
       ·
        refine Dc (fun Wd hd => ?_) ?_
        ·
         exact Dd (dx_fld (o1 := 3) rfl ty_fld_26_3_3 rfl rfl) rfl
        refine Dc (fun Wd hd => ?_) ?_
        ·
         have k37 := k37.below hd
         exact Dd (dx_load rfl ty_one_23 rfl (k37.cell (k := 3) rfl)) rfl
        refine Dc (fun Wd hd => ?_) ?_
        ·
         exact Dd (dx_fld (o1 := 3) rfl ty_fld_26_3_3 rfl rfl) rfl
        refine Dc (fun Wd hd => ?_) ?_
        ·
         have k3 := k3.below hd
         exact Dd (dx_load rfl ty_one_23 rfl (k3.cell (k := 3) rfl)) rfl
        refine Dc (fun Wd hd => ?_) ?_
        ·
         exact Dd (dx_move rfl rfl) rfl
        refine Dc (fun Wd hd => ?_) ?_
        ·
         have hnp := hnp.below hd
         exact (dx_idxF i rfl ty_slice_23 rfl rfl hnp (by omega) (at_mapX e50)).mono (fun v W' h => ⟨by rw [← h.1]; exact Below.refl _ _, by rw [← h.1]; exact h.2⟩)
        refine Dc (fun Wd hd => ?_) ?_
        ·
         intro u13_5 p13_5
         exact Dd (dx_loadP rfl ty_one_9 rfl p13_5) rfl
        refine Dc (fun Wd hd => ?_) ?_
        ·
         exact (dx_lit1 (r := [.string r49]) rfl ty_ap_23 (by decide) (by decide) rfl rfl rfl).mono (fun v W' h => ⟨h.2.1, h.1.notin (LL.below hL hd) (Nat.le_refl _)⟩)
        exact trivial
       ·
        intro W66 b67
        intro u13_5 p13_5
        intro u13_7 p13_7
        replace hgv := hgv.below b67
        replace hnp := hnp.below b67
        replace hip := hip.below b67
        replace hcp := hcp.below b67
        replace hag := hag.below b67
        replace k3 := k3.below b67
        replace k8 := k8.below b67
        replace k37 := k37.below b67
        replace hB := below_then hB b67
        replace hL := LL.below hL b67
        refine Ge (dx_apF (rs := []) (news := [eS r49]) rfl ty_ap_23 rfl rfl (RdF.nil (L := []) (by decide)) (RdF.less (L' := []) p13_7 (fun x hx => by cases hx)) (by simp) (by simp [maxLen]) (by simp)) rfl rfl ?_
        rintro u68 W69 ⟨k70, b71, z72⟩
        have q75 := hag.2.1
        have l76 : b0 ≤ W66.heap.size := by omega
        have n79 : W16.heap.size ≠ W66.heap.size := Nat.ne_of_lt k37.lt
        have l80 := hB.size
        replace hgv := hgv.more b71 (Nat.le_refl _)
        replace hnp := hnp.more b71 (Nat.le_refl _)
        replace hip := hip.more b71 (Nat.le_refl _)
        replace hcp := hcp.more b71 (Nat.le_refl _)
        replace hag := hag.more b71 (Nat.le_refl _)
        replace k3 := k3.below b71
        replace k8 := k8.below b71
        replace k37 := k37.below b71
        replace hB := below_then hB b71
        replace hL := LL.more hL z72
        refine Va (dx_fld (o1 := 3) rfl ty_fld_26_3_3 rfl rfl) rfl rfl ?_
        refine WL.do (dx_store (cs' := [.int .i64 6, .int .i64 0, .string ⟨#[]⟩, u68, .slice none 0 0]) (vs := [u68]) rfl ty_size_23_1 rfl rfl (oc_one k70.one) (oc_cons k70.one oc_nil) k37 rfl (Nat.le_of_ble_eq_true rfl) rfl) rfl ?_
        rintro _ W81 ⟨k83, o82⟩
        replace k3 := k3.other o82 n32
        replace k8 := k8.other o82 n33
        replace k70 := k70.other o82 n79.symm
        clear k37
        replace hgv := hgv.only o82 (.tail _ (.head _))
        replace hnp := hnp.only o82 (.tail _ (.head _))
        replace hip := hip.only o82 (.tail _ (.head _))
        replace hcp := hcp.only o82 (.tail _ (.head _))
        replace hag := hag.only o82 (.tail _ (.head _))
        replace hB := o82.below hB l34
        replace hL := LL.only hL o82
        refine Ni (hK65 ?_)
        obtain ⟨t84, ht85⟩ : ∃ x, p.items[i]? = some x := ⟨_, List.getElem?_eq_getElem (by omega)⟩
        have hot84 := (hcp t84 (List.mem_of_getElem? ht85))
        obtain ⟨hnt84, hit84, hct84⟩ : RdF 1 (W66.heap.size :: W16.heap.size :: W2.heap.size :: w.heap.size :: L) W81 t84.nv (t84.names.map eS) ∧ RdF 5 (W66.heap.size :: W16.heap.size :: W2.heap.size :: w.heap.size :: L) W81 t84.iv (t84.items.map encT) ∧ ∀ c ∈ t84.items, RdT n (W66.heap.size :: W16.heap.size :: W2.heap.size :: w.heap.size :: L) W81 c := by cases n with | zero => exact hot84.elim | succ n => exact ⟨hot84.1, hot84.2.1, fun c hc => (hot84.2.2 c hc).up⟩
        refine WC.drawM 8 [(some 57, .is (.pointer (some ⟨W16.heap.size, 4, none⟩))), (some 58, .is (.slice none 0 0)), (some 59, .is (.pointer (some ⟨w.heap.size, 4, none⟩))), (some 60, .is (p.iv)), (some 61, .is (.int .i64 (i : Int))), (some 62, .by fun u W => PtR (W66.heap.size :: W16.heap.size :: W2.heap.size :: w.heap.size :: L) W u (encT t84)), (some 63, .is (.agg #[.int .i64 t84.kind, .int .i64 t84.num, .string t84.text, t84.nv, t84.iv])), (some 64, .by fun u W => RdF 5 (W66.heap.size :: W16.heap.size :: W2.heap.size :: w.heap.size :: L) W u [[.int .i64 t84.kind, .int .i64 t84.num, .string t84.text, t84.nv, t84.iv]])] [[], [0], [], [2], [], [3, 4], [5], [6]] (by kernel_rfl) (by kernel_rfl) (by kernel_rfl) (by kernel_rfl) (by kernel_rfl) (by kernel_rfl) (by kernel_rfl) ⟨fun _ _ _ hb h => h.below hb, fun _ _ _ hb h => h.below hb, trivial⟩ ?_ ?_
        ·
         refine Dc (fun Wd hd => ?_) ?_
         ·
          exact Dd (dx_fld (o1 := 4) rfl ty_fld_26_4_4 rfl rfl) rfl
         refine Dc (fun Wd hd => ?_) ?_
         ·
          have k83 := k83.below hd
          exact Dd (dx_load rfl ty_one_24 rfl (k83.cell (k := 4) rfl)) rfl
         refine Dc (fun Wd hd => ?_) ?_
         ·
          exact Dd (dx_fld (o1 := 4) rfl ty_fld_26_4_4 rfl rfl) rfl
         refine Dc (fun Wd hd => ?_) ?_
         ·
          have k3 := k3.below hd
          exact Dd (dx_load rfl ty_one_24 rfl (k3.cell (k := 4) rfl)) rfl
         refine Dc (fun Wd hd => ?_) ?_
         ·
          exact Dd (dx_move rfl rfl) rfl
         refine Dc (fun Wd hd => ?_) ?_
         ·
          have hip := hip.below hd
          exact (dx_idxF i rfl ty_slice_24 rfl rfl hip (by omega) (at_mapX ht85)).mono (fun v W' h => ⟨by rw [← h.1]; exact Below.refl _ _, by rw [← h.1]; exact h.2⟩)
         refine Dc (fun Wd hd => ?_) ?_
         ·
          intro u14_5 p14_5
          exact Dd (dx_loadPN rfl ty_agg_26_5 rfl p14_5 rfl) rfl
         refine Dc (fun Wd hd => ?_) ?_
         ·
          exact (dx_lit1 (r := [.int .i64 t84.kind, .int .i64 t84.num, .string t84.text, t84.nv, t84.iv]) rfl ty_ap_24 (by decide) (by decide) rfl rfl rfl).mono (fun v W' h => ⟨h.2.1, h.1.notin (LL.below hL hd) (Nat.le_refl _)⟩)
         exact trivial
        ·
         intro W86 b87
         intro u14_5 p14_5
         intro u14_7 p14_7
         replace hgv := hgv.below b87
         replace hnp := hnp.below b87
         replace hip := hip.below b87
         replace hcp := hcp.below b87
         replace hag := hag.below b87
         replace k3 := k3.below b87
         replace k8 := k8.below b87
         replace k83 := k83.below b87
         replace k70 := k70.below b87
         replace hB := below_then hB b87
         replace hL := LL.below hL b87
         refine Ge (dx_apF (rs := []) (news := [encT t84]) rfl ty_ap_24 rfl rfl (RdF.nil (L := []) (by decide)) (RdF.less (L' := []) p14_7 (fun x hx => by cases hx)) (by simp) (by simp [maxLen]) (by simp)) rfl rfl ?_
         rintro u88 W89 ⟨k90, b91, z92⟩
         have q95 := hag.2.1
         have l96 : b0 ≤ W86.heap.size := by omega
         have n99 : W16.heap.size ≠ W86.heap.size := Nat.ne_of_lt k83.lt
         have n100 : W66.heap.size ≠ W86.heap.size := Nat.ne_of_lt k70.lt
         have l101 := hB.size
         replace hgv := hgv.more b91 (Nat.le_refl _)
         replace hnp := hnp.more b91 (Nat.le_refl _)
         replace hip := hip.more b91 (Nat.le_refl _)
         replace hcp := hcp.more b91 (Nat.le_refl _)
         replace hag := hag.more b91 (Nat.le_refl _)
         replace k3 := k3.below b91
         replace k8 := k8.below b91
         replace k83 := k83.below b91
         replace k70 := k70.below b91
         replace hB := below_then hB b91
         replace hL := LL.more hL z92
         refine Va (dx_fld (o1 := 4) rfl ty_fld_26_4_4 rfl rfl) rfl rfl ?_
         refine WL.do (dx_store (cs' := [.int .i64 6, .int .i64 0, .string ⟨#[]⟩, u68, u88]) (vs := [u88]) rfl ty_size_24_1 rfl rfl (oc_one k90.one) (oc_cons k90.one oc_nil) k83 rfl (Nat.le_of_ble_eq_true rfl) rfl) rfl ?_
         rintro _ W102 ⟨k104, o103⟩
         replace k3 := k3.other o103 n32
         replace k8 := k8.other o103 n33
         replace k70 := k70.other o103 n79.symm
         replace k90 := k90.other o103 n99.symm
         clear k83
         replace hgv := hgv.only o103 (.tail _ (.tail _ (.head _)))
         replace hnp := hnp.only o103 (.tail _ (.tail _ (.head _)))
         replace hip := hip.only o103 (.tail _ (.tail _ (.head _)))
         replace hcp := hcp.only o103 (.tail _ (.tail _ (.head _)))
         replace hag := hag.only o103 (.tail _ (.tail _ (.head _)))
         replace hB := o103.below hB l34
         replace hL := LL.only hL o103
         refine Ni (hK45 (Rg (Pu rfl (Va (dx_add (r := (i : Int) + 1) rfl rfl rfl (wrap64_id (by omega))) rfl rfl (Pu rfl (Ni ?_))))))
         have eN : [r49] = (wnN gs (p.names.take (i + 1))) := by rw [wnN_add e50 (hgb.symm.trans (by first | assumption | simp_all))]; rw [hns0]; rfl
         have eT : [t84] = (wnT gs (p.names.take (i + 1)) (p.items.take (i + 1))) := by rw [wnT_add e50 ht85 (hgb.symm.trans (by first | assumption | simp_all))]; rw [hts0]; rfl
         have hts2 : RdTs n (W66.heap.size :: W86.heap.size :: W16.heap.size :: W2.heap.size :: w.heap.size :: L) W102 [t84] := fun c hc_ => by
          simp only [List.mem_append, List.mem_singleton, or_assoc] at hc_
          have h_ := hc_
          (rw [h_]; exact (hcp t84 (List.mem_of_getElem? ht85)).less (fun x hx => by simp only [List.mem_cons] at hx ⊢; rcases hx with h_ | h_ | h_ <;> simp [h_]))
         have hm2 : MembI n b0 (W16.heap.size :: W2.heap.size :: w.heap.size :: L) u68 (wnN gs (p.names.take (i + 1))) u88 (wnT gs (p.names.take (i + 1)) (p.items.take (i + 1))) W102 := ⟨hb0L, .inr ⟨W66.heap.size, W86.heap.size, n100, by omega, by omega, (by rw [← eN]; exact k70), (by rw [← eT]; exact k90), (by rw [← eT]; exact hts2)⟩⟩
         have hL_ := hL.less (fun x hx => (.tail _ (.tail _ hx)))
         replace hag : AgL W35 (W16.heap.size :: W2.heap.size :: w.heap.size :: L) (W16.heap.size :: W2.heap.size :: w.heap.size :: L) W102 := ⟨fun _ h _ => h, hag.2⟩
         replace hnp := hnp6.agree hag.2
         replace hip := hip6.agree hag.2
         replace hgv := hgv6.agree hag.2
         replace hcp : RdTs n (W16.heap.size :: W2.heap.size :: w.heap.size :: L) W102 p.items := fun c hc_ => (hcp6 c hc_).agree hag.2
         replace hL := hL_
         exact hK40 (i + 1) u68 u88 ⟨(by omega), hB, hL, hgv, hnp, hip, hcp, hag, hm2, k3, k8, k104⟩ (by omega) (by repeat first | exact trivial | exact And.intro rfl trivial | refine And.intro rfl ?_ | refine And.intro (congrArg (fun z : Int => some (Value.int .i64 z)) (by omega)) ?_ | refine And.intro (congrArg (fun z : Bool => some (Value.bool z)) (by first | exact (decide_eq_true (by omega)).symm | exact (decide_eq_false (by omega)).symm)) ?_)
      ·
       have n105 : Bn ≠ w.heap.size := by have := hb0L (w.heap.size) (.tail _ (.tail _ (.head _))); omega
       have n106 : Bi ≠ w.heap.size := by have := hb0L (w.heap.size) (.tail _ (.tail _ (.head _))); omega
       have n107 : Bn ≠ W2.heap.size := by have := hb0L (W2.heap.size) (.tail _ (.head _)); omega
       have n108 : Bi ≠ W2.heap.size := by have := hb0L (W2.heap.size) (.tail _ (.head _)); omega
       have n109 : Bn ≠ W16.heap.size := by have := hb0L (W16.heap.size) (.head _); omega
       have n110 : Bi ≠ W16.heap.size := by have := hb0L (W16.heap.size) (.head _); omega
       have lbn : w.heap.size ≤ Bn := by omega
       have lbi : w.heap.size ≤ Bi := by omega
       replace hag := (hag.add (B := Bi) (by omega)).add (B := Bn) (by omega)
       replace hL := LL.cons (LL.cons hL hOi.lt) hOn.lt
       replace hnp := hag.rd hnp6
       replace hip := hag.rd hip6
       replace hgv := hag.rd hgv6
       replace hcp : RdTs n (Bn :: Bi :: W16.heap.size :: W2.heap.size :: w.heap.size :: L) W52 p.items := fun c hc_ => hag.rt (hcp6 c hc_)
       refine WC.drawM 8 [(some 47, .is (.pointer (some ⟨W16.heap.size, 3, none⟩))), (some 48, .is (nv)), (some 49, .is (.pointer (some ⟨w.heap.size, 3, none⟩))), (some 50, .is (p.nv)), (some 51, .is (.int .i64 (i : Int))), (some 52, .by fun u W => PtR (Bn :: Bi :: W16.heap.size :: W2.heap.size :: w.heap.size :: L) W u [.string r49]), (some 53, .is (.string r49)), (some 54, .by fun u W => RdF 1 (Bn :: Bi :: W16.heap.size :: W2.heap.size :: w.heap.size :: L) W u [[.string r49]])] [[], [0], [], [2], [], [3, 4], [5], [6]] (by kernel_rfl) (by kernel_rfl) (by kernel_rfl) (by kernel_rfl) (by kernel_rfl) (by kernel_rfl) (by kernel_rfl) ⟨fun _ _ _ hb h => h.below hb, fun _ _ _ hb h => h.below hb, trivial⟩ ?_ ?_
       ·
        refine Dc (fun Wd hd => ?_) ?_
        ·
         exact Dd (dx_fld (o1 := 3) rfl ty_fld_26_3_3 rfl rfl) rfl
        refine Dc (fun Wd hd => ?_) ?_
        ·
         have k37 := k37.below hd
         exact Dd (dx_load rfl ty_one_23 rfl (k37.cell (k := 3) rfl)) rfl
        refine Dc (fun Wd hd => ?_) ?_
        ·
         exact Dd (dx_fld (o1 := 3) rfl ty_fld_26_3_3 rfl rfl) rfl
        refine Dc (fun Wd hd => ?_) ?_
        ·
         have k3 := k3.below hd
         exact Dd (dx_load rfl ty_one_23 rfl (k3.cell (k := 3) rfl)) rfl
        refine Dc (fun Wd hd => ?_) ?_
        ·
         exact Dd (dx_move rfl rfl) rfl
        refine Dc (fun Wd hd => ?_) ?_
        ·
         have hnp := hnp.below hd
         exact (dx_idxF i rfl ty_slice_23 rfl rfl hnp (by omega) (at_mapX e50)).mono (fun v W' h => ⟨by rw [← h.1]; exact Below.refl _ _, by rw [← h.1]; exact h.2⟩)
        refine Dc (fun Wd hd => ?_) ?_
        ·
         intro u13_5 p13_5
         exact Dd (dx_loadP rfl ty_one_9 rfl p13_5) rfl
        refine Dc (fun Wd hd => ?_) ?_
        ·
         exact (dx_lit1 (r := [.string r49]) rfl ty_ap_23 (by decide) (by decide) rfl rfl rfl).mono (fun v W' h => ⟨h.2.1, h.1.notin (LL.below hL hd) (Nat.le_refl _)⟩)
        exact trivial
       ·
        intro W111 b112
        intro u13_5 p13_5
        intro u13_7 p13_7
        replace hgv := hgv.below b112
        replace hnp := hnp.below b112
        replace hip := hip.below b112
        replace hcp := hcp.below b112
        replace hag := hag.below b112
        replace hts := hts.below b112
        replace k3 := k3.below b112
        replace k8 := k8.below b112
        replace k37 := k37.below b112
        replace hOn := hOn.below b112
        replace hOi := hOi.below b112
        replace hB := below_then hB b112
        replace hL := LL.below hL b112
        refine Ge (dx_apO' (rs := ((wnN gs (p.names.take i)).map eS)) (news := [eS r49]) rfl ty_ap_23 rfl rfl hOn (RdF.less (L' := []) p13_7 (fun x hx => by cases hx)) (fun r hr => by rw [List.mem_singleton.1 hr]; exact (oc_cons rfl oc_nil)) (by simp only [List.length_map, List.length_append, List.length_cons, List.length_nil]; unfold maxLen; omega) (by simp only [List.length_map, List.length_append, List.length_cons, List.length_nil]; omega)) rfl rfl ?_
        rintro u113 W114 ⟨B119, k115, g118⟩
        rw [show ((wnN gs (p.names.take i)).map eS) ++ [eS r49] = (((wnN gs (p.names.take i)) ++ [r49]).map eS) from by simp only [List.map_append, List.map_cons, List.map_nil]] at k115
        have q121 := hag.2.1
        have l122 : b0 ≤ B119 := g118.le hbn (by omega)
        have n125 : W16.heap.size ≠ B119 := k37.grow_ne g118 n109.symm
        have n126 : Bi ≠ B119 := hOi.grow_ne g118 hni.symm
        have l120 := g118.le lbn hB.size
        replace hgv := hgv.grow' g118 (.head _)
        replace hnp := hnp.grow' g118 (.head _)
        replace hip := hip.grow' g118 (.head _)
        replace hcp := hcp.grow' g118 (.head _)
        replace hag := hag.grow' g118 (.head _)
        replace hts := hts.grow' g118 (.head _)
        replace k3 := k3.grow g118 n105.symm
        replace k8 := k8.grow g118 n107.symm
        replace k37 := k37.grow g118 n109.symm
        replace hOi := hOi.grow g118 hni.symm
        replace hB := g118.below hB lbn hB.size
        replace hL := LL.grow hL g118 k115.lt
        refine Va (dx_fld (o1 := 3) rfl ty_fld_26_3_3 rfl rfl) rfl rfl ?_
        refine WL.do (dx_store (cs' := [.int .i64 6, .int .i64 0, .string ⟨#[]⟩, u113, iv]) (vs := [u113]) rfl ty_size_23_1 rfl rfl (oc_one k115.one) (oc_cons k115.one oc_nil) k37 rfl (Nat.le_of_ble_eq_true rfl) rfl) rfl ?_
        rintro _ W127 ⟨k129, o128⟩
        replace k3 := k3.other o128 n32
        replace k8 := k8.other o128 n33
        replace hOi := hOi.other o128 n110
        replace k115 := k115.other o128 n125.symm
        clear k37
        replace hgv := hgv.only o128 (.tail _ (.tail _ (.tail _ (.head _))))
        replace hnp := hnp.only o128 (.tail _ (.tail _ (.tail _ (.head _))))
        replace hip := hip.only o128 (.tail _ (.tail _ (.tail _ (.head _))))
        replace hcp := hcp.only o128 (.tail _ (.tail _ (.tail _ (.head _))))
        replace hag := hag.only o128 (.tail _ (.tail _ (.tail _ (.head _))))
        replace hts := hts.only o128 (.tail _ (.tail _ (.tail _ (.head _))))
        replace hB := o128.below hB l34
        replace hL := LL.only hL o128
        refine Ni (hK65 ?_)
        obtain ⟨t130, ht131⟩ : ∃ x, p.items[i]? = some x := ⟨_, List.getElem?_eq_getElem (by omega)⟩
        have hot130 := (hcp t130 (List.mem_of_getElem? ht131))
        obtain ⟨hnt130, hit130, hct130⟩ : RdF 1 (B119 :: Bn :: Bi :: W16.heap.size :: W2.heap.size :: w.heap.size :: L) W127 t130.nv (t130.names.map eS) ∧ RdF 5 (B119 :: Bn :: Bi :: W16.heap.size :: W2.heap.size :: w.heap.size :: L) W127 t130.iv (t130.items.map encT) ∧ ∀ c ∈ t130.items, RdT n (B119 :: Bn :: Bi :: W16.heap.size :: W2.heap.size :: w.heap.size :: L) W127 c := by cases n with | zero => exact hot130.elim | succ n => exact ⟨hot130.1, hot130.2.1, fun c hc => (hot130.2.2 c hc).up⟩
        refine WC.drawM 8 [(some 57, .is (.pointer (some ⟨W16.heap.size, 4, none⟩))), (some 58, .is (iv)), (some 59, .is (.pointer (some ⟨w.heap.size, 4, none⟩))), (some 60, .is (p.iv)), (some 61, .is (.int .i64 (i : Int))), (some 62, .by fun u W => PtR (B119 :: Bn :: Bi :: W16.heap.size :: W2.heap.size :: w.heap.size :: L) W u (encT t130)), (some 63, .is (.agg #[.int .i64 t130.kind, .int .i64 t130.num, .string t130.text, t130.nv, t130.iv])), (some 64, .by fun u W => RdF 5 (B119 :: Bn :: Bi :: W16.heap.size :: W2.heap.size :: w.heap.size :: L) W u [[.int .i64 t130.kind, .int .i64 t130.num, .string t130.text, t130.nv, t130.iv]])] [[], [0], [], [2], [], [3, 4], [5], [6]] (by kernel_rfl) (by kernel_rfl) (by kernel_rfl) (by kernel_rfl) (by kernel_rfl) (by kernel_rfl) (by kernel_rfl) ⟨fun _ _ _ hb h => h.below hb, fun _ _ _ hb h => h.below hb, trivial⟩ ?_ ?_
        ·
         refine Dc (fun Wd hd => ?_) ?_
         ·
          exact Dd (dx_fld (o1 := 4) rfl ty_fld_26_4_4 rfl rfl) rfl
         refine Dc (fun Wd hd => ?_) ?_
         ·
          have k129 := k129.below hd
          exact Dd (dx_load rfl ty_one_24 rfl (k129.cell (k := 4) rfl)) rfl
         refine Dc (fun Wd hd => ?_) ?_
         ·
          exact Dd (dx_fld (o1 := 4) rfl ty_fld_26_4_4 rfl rfl) rfl
         refine Dc (fun Wd hd => ?_) ?_
         ·
          have k3 := k3.below hd
          exact Dd (dx_load rfl ty_one_24 rfl (k3.cell (k := 4) rfl)) rfl
         refine Dc (fun Wd hd => ?_) ?_
         ·
          exact Dd (dx_move rfl rfl) rfl
         refine Dc (fun Wd hd => ?_) ?_
         ·
          have hip := hip.below hd
          exact (dx_idxF i rfl ty_slice_24 rfl rfl hip (by omega) (at_mapX ht131)).mono (fun v W' h => ⟨by rw [← h.1]; exact Below.refl _ _, by rw [← h.1]; exact h.2⟩)
         refine Dc (fun Wd hd => ?_) ?_
         ·
          intro u14_5 p14_5
          exact Dd (dx_loadPN rfl ty_agg_26_5 rfl p14_5 rfl) rfl
         refine Dc (fun Wd hd => ?_) ?_
         ·
          exact (dx_lit1 (r := [.int .i64 t130.kind, .int .i64 t130.num, .string t130.text, t130.nv, t130.iv]) rfl ty_ap_24 (by decide) (by decide) rfl rfl rfl).mono (fun v W' h => ⟨h.2.1, h.1.notin (LL.below hL hd) (Nat.le_refl _)⟩)
         exact trivial
        ·
         intro W132 b133
         intro u14_5 p14_5
         intro u14_7 p14_7
         replace hgv := hgv.below b133
         replace hnp := hnp.below b133
         replace hip := hip.below b133
         replace hcp := hcp.below b133
         replace hag := hag.below b133
         replace hts := hts.below b133
         replace k3 := k3.below b133
         replace k8 := k8.below b133
         replace k129 := k129.below b133
         replace hOi := hOi.below b133
         replace k115 := k115.below b133
         replace hB := below_then hB b133
         replace hL := LL.below hL b133
         refine Ge (dx_apO' (rs := ((wnT gs (p.names.take i) (p.items.take i)).map encT)) (news := [encT t130]) rfl ty_ap_24 rfl rfl hOi (RdF.less (L' := []) p14_7 (fun x hx => by cases hx)) (fun r hr => by rw [List.mem_singleton.1 hr]; exact (hcp t130 (List.mem_of_getElem? ht131)).oc) (by simp only [List.length_map, List.length_append, List.length_cons, List.length_nil]; unfold maxLen; omega) (by simp only [List.length_map, List.length_append, List.length_cons, List.length_nil]; omega)) rfl rfl ?_
         rintro u134 W135 ⟨B140, k136, g139⟩
         rw [show ((wnT gs (p.names.take i) (p.items.take i)).map encT) ++ [encT t130] = (((wnT gs (p.names.take i) (p.items.take i)) ++ [t130]).map encT) from by simp only [List.map_append, List.map_cons, List.map_nil]] at k136
         have q142 := hag.2.1
         have l143 : b0 ≤ B140 := g139.le hbi (by omega)
         have n146 : W16.heap.size ≠ B140 := k129.grow_ne g139 n110.symm
         have n147 : B119 ≠ B140 := k115.grow_ne g139 n126.symm
         have l141 := g139.le lbi hB.size
         replace hgv := hgv.grow' g139 (.tail _ (.tail _ (.head _)))
         replace hnp := hnp.grow' g139 (.tail _ (.tail _ (.head _)))
         replace hip := hip.grow' g139 (.tail _ (.tail _ (.head _)))
         replace hcp := hcp.grow' g139 (.tail _ (.tail _ (.head _)))
         replace hag := hag.grow' g139 (.tail _ (.tail _ (.head _)))
         replace hts := hts.grow' g139 (.tail _ (.tail _ (.head _)))
         replace k3 := k3.grow g139 n106.symm
         replace k8 := k8.grow g139 n108.symm
         replace k129 := k129.grow g139 n110.symm
         replace k115 := k115.grow g139 n126.symm
         replace hB := g139.below hB lbi hB.size
         replace hL := LL.grow hL g139 k136.lt
         refine Va (dx_fld (o1 := 4) rfl ty_fld_26_4_4 rfl rfl) rfl rfl ?_
         refine WL.do (dx_store (cs' := [.int .i64 6, .int .i64 0, .string ⟨#[]⟩, u113, u134]) (vs := [u134]) rfl ty_size_24_1 rfl rfl (oc_one k136.one) (oc_cons k136.one oc_nil) k129 rfl (Nat.le_of_ble_eq_true rfl) rfl) rfl ?_
         rintro _ W148 ⟨k150, o149⟩
         replace k3 := k3.other o149 n32
         replace k8 := k8.other o149 n33
         replace k115 := k115.other o149 n125.symm
         replace k136 := k136.other o149 n146.symm
         clear k129
         replace hgv := hgv.only o149 (.tail _ (.tail _ (.tail _ (.tail _ (.head _)))))
         replace hnp := hnp.only o149 (.tail _ (.tail _ (.tail _ (.tail _ (.head _)))))
         replace hip := hip.only o149 (.tail _ (.tail _ (.tail _ (.tail _ (.head _)))))
         replace hcp := hcp.only o149 (.tail _ (.tail _ (.tail _ (.tail _ (.head _)))))
         replace hag := hag.only o149 (.tail _ (.tail _ (.tail _ (.tail _ (.head _)))))
         replace hts := hts.only o149 (.tail _ (.tail _ (.tail _ (.tail _ (.head _)))))
         replace hB := o149.below hB l34
         replace hL := LL.only hL o149
         refine Ni (hK45 (Rg (Pu rfl (Va (dx_add (r := (i : Int) + 1) rfl rfl rfl (wrap64_id (by omega))) rfl rfl (Pu rfl (Ni ?_))))))
         have eN : ((wnN gs (p.names.take i)) ++ [r49]) = (wnN gs (p.names.take (i + 1))) := by rw [wnN_add e50 (hgb.symm.trans (by first | assumption | simp_all))]
         have eT : ((wnT gs (p.names.take i) (p.items.take i)) ++ [t130]) = (wnT gs (p.names.take (i + 1)) (p.items.take (i + 1))) := by rw [wnT_add e50 ht131 (hgb.symm.trans (by first | assumption | simp_all))]
         have hts2 : RdTs n (B119 :: B140 :: W16.heap.size :: W2.heap.size :: w.heap.size :: L) W148 ((wnT gs (p.names.take i) (p.items.take i)) ++ [t130]) := fun c hc_ => by
          simp only [List.mem_append, List.mem_singleton, or_assoc] at hc_
          rcases hc_ with h_ | h_
          · exact (hts c h_).less (fun x hx => by simp only [List.mem_cons] at hx ⊢; rcases hx with h_ | h_ | h_ <;> simp [h_])
          · (rw [h_]; exact (hcp t130 (List.mem_of_getElem? ht131)).less (fun x hx => by simp only [List.mem_cons] at hx ⊢; rcases hx with h_ | h_ | h_ <;> simp [h_]))
         have hm2 : MembI n b0 (W16.heap.size :: W2.heap.size :: w.heap.size :: L) u113 (wnN gs (p.names.take (i + 1))) u134 (wnT gs (p.names.take (i + 1)) (p.items.take (i + 1))) W148 := ⟨hb0L, .inr ⟨B119, B140, n147, by omega, by omega, (by rw [← eN]; exact k115), (by rw [← eT]; exact k136), (by rw [← eT]; exact hts2)⟩⟩
         have hL_ := hL.less (fun x hx => (.tail _ (.tail _ (.tail _ (.tail _ hx)))))
         replace hag : AgL W35 (W16.heap.size :: W2.heap.size :: w.heap.size :: L) (W16.heap.size :: W2.heap.size :: w.heap.size :: L) W148 := ⟨fun _ h _ => h, hag.2⟩
         replace hnp := hnp6.agree hag.2
         replace hip := hip6.agree hag.2
         replace hgv := hgv6.agree hag.2
         replace hcp : RdTs n (W16.heap.size :: W2.heap.size :: w.heap.size :: L) W148 p.items := fun c hc_ => (hcp6 c hc_).agree hag.2
         replace hL := hL_
         exact hK40 (i + 1) u113 u134 ⟨(by omega), hB, hL, hgv, hnp, hip, hcp, hag, hm2, k3, k8, k150⟩ (by omega) (by repeat first | exact trivial | exact And.intro rfl trivial | refine And.intro rfl ?_ | refine And.intro (congrArg (fun z : Int => some (Value.int .i64 z)) (by omega)) ?_ | refine And.intro (congrArg (fun z : Bool => some (Value.bool z)) (by first | exact (decide_eq_true (by omega)).symm | exact (decide_eq_false (by omega)).symm)) ?_)
     ·
      replace c64 := bnot_f c64
      refine WC.skip (hK45 (Rg (Pu rfl (Va (dx_add (r := (i : Int) + 1) rfl rfl rfl (wrap64_id (by omega))) rfl rfl (Pu rfl (Ni ?_))))))
      obtain ⟨t_, ht_⟩ : ∃ x, p.items[i]? = some x := ⟨_, List.getElem?_eq_getElem (by omega)⟩
      rw [← wnN_no e50 (hgb.symm.trans (by first | assumption | simp_all)), ← wnT_no e50 ht_ (hgb.symm.trans (by first | assumption | simp_all))] at hm
      exact hK40 (i + 1) nv iv ⟨(by omega), hB, hL, hgv, hnp, hip, hcp, hag, hm, k3, k8, k37⟩ (by omega) (by repeat first | exact trivial | exact And.intro rfl trivial | refine And.intro rfl ?_ | refine And.intro (congrArg (fun z : Int => some (Value.int .i64 z)) (by omega)) ?_ | refine And.intro (congrArg (fun z : Bool => some (Value.bool z)) (by first | exact (decide_eq_true (by omega)).symm | exact (decide_eq_false (by omega)).symm)) ?_)
   ·
    replace c44 := dF c44
    refine WC.exit ?_
    refine hK38 (Sq fun K151 hK151 => (Rg (Va (dx_loadN rfl ty_agg_26_5 rfl k37.range rfl) rfl rfl ?_)))
    refine WL.do (dx_store (cs' := [.int .i64 6, .int .i64 0, .string ⟨#[]⟩, nv, iv]) (vs := [.int .i64 6, .int .i64 0, .string ⟨#[]⟩, nv, iv]) rfl ty_size_26_5 rfl rfl rfl (oc_cons rfl (oc_cons rfl (oc_cons rfl (oc_cons hm.one.1 (oc_cons hm.one.2 oc_nil))))) k8 rfl (Nat.le_of_ble_eq_true rfl) rfl) rfl ?_
    rintro _ W152 ⟨k154, o153⟩
    clear k8
    replace hm := hm.only o153 (.tail _ (.head _))
    replace hB := o153.below hB l12
    refine Ni (hK151 ?_)
    exact WC.ret fun a_ ha_ => hQ (cv_ret1 rfl (.agg rfl ty_agg_26_5 k154.range rfl) (by have hie : i = p.names.length := (by omega); rw [hie, List.take_of_length_le (Nat.le_refl _), List.take_of_length_le (show p.items.length ≤ p.names.length by omega)] at hm; exact ⟨.mk 6 0 ⟨#[]⟩ nv (wnN gs p.names) iv (wnT gs p.names p.items), rfl, (by rw [Tr.er_mk]; unfold withoutJ; rw [if_pos hro, er_names, er_items, wnT_map]), hm.tree (fun x hx => (.tail _ (.tail _ (.tail _ hx)))) 6 0 ⟨#[]⟩⟩) hB ha_)

set_option maxHeartbeats 2000000 in
theorem refWith_v (n : Nat) (p q : Tr) (name : ByteArray) (w : World) (L : List Nat) (hL : LL L w) (htp : RdT (n + 1) L w p) (htq : RdT (n + 1) L w q)  (hzp : SzT 1000000 (n + 1) p) (hzq : SzT 1000000 (n + 1) q) (hns_ : name.size ≤ 1000000) : CV Try.prog 25 [.agg #[.int .i64 p.kind, .int .i64 p.num, .string p.text, p.nv, p.iv], .string name, .agg #[.int .i64 q.kind, .int .i64 q.num, .string q.text, q.nv, q.iv]] w fun v W => (∃ t, v = .tuple #[.agg #[.int .i64 t.kind, .int .i64 t.num, .string t.text, t.nv, t.iv], .int .i64 0] ∧ withJ p.er name q.er = .ok t.er ∧ RdT (n + 2) L W t) ∨ (∃ e, v = .tuple #[.agg #[.int .i64 0, .int .i64 0, .string ⟨#[]⟩, .slice none 0 0, .slice none 0 0], .int .i64 e] ∧ e ≠ 0 ∧ withJ p.er name q.er = .error e) := by
 refine cv_enter (N := 36) (f := [(0, .agg #[.int .i64 p.kind, .int .i64 p.num, .string p.text, p.nv, p.iv]), (1, .string name), (2, .agg #[.int .i64 q.kind, .int .i64 q.num, .string q.text, q.nv, q.iv])]) Try.func25 rfl rfl rfl rfl fun Q hQ hE => ?_
 have hB := Below.refl w.heap.size w
 refine Sq fun K1 hK1 => ?_
 obtain ⟨hnp, hip, hcp⟩ := htp
 replace hcp : RdTs n (L) w p.items := hcp
 obtain ⟨hnq, hiq, hcq⟩ := htq
 replace hcq : RdTs n (L) w q.items := hcq
 refine Rg ?_
 refine Ge (dx_box rfl rfl rfl) rfl rfl ?_
 rintro _ W2 ⟨rfl, k3, b4, z5⟩
 have l6 := hB.size
 replace hnp := hnp.more b4 (Nat.le_refl _)
 replace hip := hip.more b4 (Nat.le_refl _)
 replace hcp := hcp.more b4 (Nat.le_refl _)
 replace hnq := hnq.more b4 (Nat.le_refl _)
 replace hiq := hiq.more b4 (Nat.le_refl _)
 replace hcq := hcq.more b4 (Nat.le_refl _)
 replace hB := below_then hB b4
 replace hL := LL.more hL z5
 refine Ge (dx_box rfl rfl rfl) rfl rfl ?_
 rintro _ W7 ⟨rfl, k8, b9, z10⟩
 have l12 := hB.size
 replace hnp := hnp.more b9 (Nat.le_refl _)
 replace hip := hip.more b9 (Nat.le_refl _)
 replace hcp := hcp.more b9 (Nat.le_refl _)
 replace hnq := hnq.more b9 (Nat.le_refl _)
 replace hiq := hiq.more b9 (Nat.le_refl _)
 replace hcq := hcq.more b9 (Nat.le_refl _)
 replace k3 := k3.below b9
 replace hB := below_then hB b9
 replace hL := LL.more hL z10
 refine Ge (dx_alloc rfl ty_zero_26 rfl) rfl rfl ?_
 rintro _ W13 ⟨rfl, k14, b15, z16⟩
 have l19 := hB.size
 replace hnp := hnp.more b15 (Nat.le_refl _)
 replace hip := hip.more b15 (Nat.le_refl _)
 replace hcp := hcp.more b15 (Nat.le_refl _)
 replace hnq := hnq.more b15 (Nat.le_refl _)
 replace hiq := hiq.more b15 (Nat.le_refl _)
 replace hcq := hcq.more b15 (Nat.le_refl _)
 replace k3 := k3.below b15
 replace k8 := k8.below b15
 replace hB := below_then hB b15
 replace hL := LL.more hL z16
 refine Pu rfl (Ni (hK1 (Sq fun K20 hK20 => (Sq fun K21 hK21 => (Rg (Va (dx_loadN rfl ty_agg_26_5 rfl k3.range rfl) rfl rfl ?_))))))
 refine Ge (dx_cv rfl Try.func19 rfl rfl rfl (rRight_v n p W13 _ hL (show RdT (n + 1) (W7.heap.size :: W2.heap.size :: w.heap.size :: L) W13 p from ⟨hnp, hip, hcp⟩) hzp)) rfl rfl ?_
 rintro _ W23 ⟨rfl, b22⟩
 replace hnp := hnp.below b22
 replace hip := hip.below b22
 replace hcp := hcp.below b22
 replace hnq := hnq.below b22
 replace hiq := hiq.below b22
 replace hcq := hcq.below b22
 replace k3 := k3.below b22
 replace k8 := k8.below b22
 replace k14 := k14.below b22
 replace hB := below_then hB b22
 replace hL := LL.below hL b22
 refine Va (dx_not rfl rfl) rfl rfl (Pu rfl ?_)
 refine WL.split 11 rfl (fun g24 => ?_) (fun g24 => ?_)
 ·
  replace g24 := bnot_t g24
  refine Of rfl (Of rfl (Of rfl (Pu rfl (Pu rfl (Of rfl (Of rfl (Of rfl ?_)))))))
  refine Pu rfl (Pu rfl (Of rfl (Of rfl (Of rfl (Of rfl (Pu rfl (Ni ?_)))))))
  refine hK21 (WC.condT rfl (Sq fun K25 hK25 => (Rg (Va (dx_build rfl rfl (built_of_O (cs := zV) (by kernel_rfl) oc_nil)) rfl rfl ?_))))
  refine WL.do (dx_store (cs' := zV) (vs := zV) rfl ty_size_26_5 rfl rfl rfl (oc_cons rfl (oc_cons rfl (oc_cons rfl (oc_cons rfl (oc_cons rfl oc_nil))))) k14 rfl (Nat.le_of_ble_eq_true rfl) rfl) rfl ?_
  rintro _ W26 ⟨k28, o27⟩
  clear k14
  replace hB := o27.below hB l19
  refine Pu rfl (Ni (hK25 ?_))
  exact WC.ret fun a_ ha_ => hQ (cv_ret2 rfl (.agg rfl ty_agg_26_5 k28.range rfl) (.tmp rfl) (.inr ⟨1, rfl, by decide, withJ_1 (by rw [er_kind, Bool.and_eq_true, decide_eq_true_eq]; rintro ⟨⟨e0, e1⟩, e2, e3⟩; simp_all)⟩) hB ha_)
 ·
  replace g24 := bnot_f g24
  refine Va (dx_fld (o1 := 0) rfl ty_fld_26_0_0 rfl rfl) rfl rfl (Va (dx_load rfl ty_one_3 rfl (k3.cell (k := 0) rfl)) rfl rfl (Va (dx_neq rfl rfl rfl) rfl rfl (Pu rfl (Pu rfl ?_))))
  refine WL.split 16 rfl (fun g29 => ?_) (fun g29 => ?_)
  ·
   replace g29 := bnot_t g29
   replace g29 := dF g29
   refine Of rfl (Of rfl (Of rfl (Pu rfl (Pu rfl (Of rfl (Of rfl (Of rfl ?_)))))))
   refine Of rfl (Pu rfl (Ni (hK21 (WC.condT rfl (Sq fun K30 hK30 => (Rg (Va (dx_build rfl rfl (built_of_O (cs := zV) (by kernel_rfl) oc_nil)) rfl rfl ?_)))))))
   refine WL.do (dx_store (cs' := zV) (vs := zV) rfl ty_size_26_5 rfl rfl rfl (oc_cons rfl (oc_cons rfl (oc_cons rfl (oc_cons rfl (oc_cons rfl oc_nil))))) k14 rfl (Nat.le_of_ble_eq_true rfl) rfl) rfl ?_
   rintro _ W31 ⟨k33, o32⟩
   clear k14
   replace hB := o32.below hB l19
   refine Pu rfl (Ni (hK30 ?_))
   exact WC.ret fun a_ ha_ => hQ (cv_ret2 rfl (.agg rfl ty_agg_26_5 k33.range rfl) (.tmp rfl) (.inr ⟨1, rfl, by decide, withJ_1 (by rw [er_kind, Bool.and_eq_true, decide_eq_true_eq]; rintro ⟨⟨e0, e1⟩, e2, e3⟩; simp_all)⟩) hB ha_)
  ·
   replace g29 := bnot_f g29
   replace g29 := dT g29
   refine Va (dx_loadN rfl ty_agg_26_5 rfl k8.range rfl) rfl rfl ?_
   refine Ge (dx_cv rfl Try.func19 rfl rfl rfl (rRight_v n q W23 _ hL (show RdT (n + 1) (W7.heap.size :: W2.heap.size :: w.heap.size :: L) W23 q from ⟨hnq, hiq, hcq⟩) hzq)) rfl rfl ?_
   rintro _ W35 ⟨rfl, b34⟩
   replace hnp := hnp.below b34
   replace hip := hip.below b34
   replace hcp := hcp.below b34
   replace hnq := hnq.below b34
   replace hiq := hiq.below b34
   replace hcq := hcq.below b34
   replace k3 := k3.below b34
   replace k8 := k8.below b34
   replace k14 := k14.below b34
   replace hB := below_then hB b34
   replace hL := LL.below hL b34
   refine Va (dx_not rfl rfl) rfl rfl (Pu rfl (Pu rfl ?_))
   refine WL.split 21 rfl (fun g36 => ?_) (fun g36 => ?_)
   ·
    replace g36 := bnot_t g36
    refine Of rfl (Of rfl (Of rfl (Of rfl (Pu rfl (Ni (hK21 (WC.condT rfl ?_)))))))
    refine Sq fun K37 hK37 => (Rg (Va (dx_build rfl rfl (built_of_O (cs := zV) (by kernel_rfl) oc_nil)) rfl rfl ?_))
    refine WL.do (dx_store (cs' := zV) (vs := zV) rfl ty_size_26_5 rfl rfl rfl (oc_cons rfl (oc_cons rfl (oc_cons rfl (oc_cons rfl (oc_cons rfl oc_nil))))) k14 rfl (Nat.le_of_ble_eq_true rfl) rfl) rfl ?_
    rintro _ W38 ⟨k40, o39⟩
    clear k14
    replace hB := o39.below hB l19
    refine Pu rfl (Ni (hK37 ?_))
    exact WC.ret fun a_ ha_ => hQ (cv_ret2 rfl (.agg rfl ty_agg_26_5 k40.range rfl) (.tmp rfl) (.inr ⟨1, rfl, by decide, withJ_1 (by rw [er_kind, Bool.and_eq_true, decide_eq_true_eq]; rintro ⟨⟨e0, e1⟩, e2, e3⟩; simp_all)⟩) hB ha_)
   ·
    replace g36 := bnot_f g36
    refine Pu rfl ?_
    refine Ge (dx_sb (L := W7.heap.size :: W2.heap.size :: w.heap.size :: L) rfl Try.underlying9 Try.underlying50 Try.underlying5 rfl hL (by unfold maxLen; omega)) rfl rfl ?_
    rintro u41 W42 ⟨k43, b44⟩
    replace hnp := hnp.below b44
    replace hip := hip.below b44
    replace hcp := hcp.below b44
    replace hnq := hnq.below b44
    replace hiq := hiq.below b44
    replace hcq := hcq.below b44
    replace k3 := k3.below b44
    replace k8 := k8.below b44
    replace k14 := k14.below b44
    replace hB := below_then hB b44
    replace hL := LL.below hL b44
    refine Ge (dx_cv rfl Try.func36 rfl rfl rfl (refUp_v name _ W42 _ hL k43 (by omega))) rfl rfl ?_
    rintro _ W46 ⟨rfl, b45⟩
    replace hnp := hnp.below b45
    replace hip := hip.below b45
    replace hcp := hcp.below b45
    replace hnq := hnq.below b45
    replace hiq := hiq.below b45
    replace hcq := hcq.below b45
    replace k3 := k3.below b45
    replace k8 := k8.below b45
    replace k14 := k14.below b45
    replace hB := below_then hB b45
    replace hL := LL.below hL b45
    refine Va (dx_not rfl rfl) rfl rfl (Pu rfl (Ni (hK21 ?_)))
    refine WC.cond rfl (fun c47 => ?_) (fun c47 => ?_)
    ·
     replace c47 := bnot_t c47
     refine Sq fun K48 hK48 => (Rg (Va (dx_build rfl rfl (built_of_O (cs := zV) (by kernel_rfl) oc_nil)) rfl rfl ?_))
     refine WL.do (dx_store (cs' := zV) (vs := zV) rfl ty_size_26_5 rfl rfl rfl (oc_cons rfl (oc_cons rfl (oc_cons rfl (oc_cons rfl (oc_cons rfl oc_nil))))) k14 rfl (Nat.le_of_ble_eq_true rfl) rfl) rfl ?_
     rintro _ W49 ⟨k51, o50⟩
     clear k14
     replace hB := o50.below hB l19
     refine Pu rfl (Ni (hK48 ?_))
     exact WC.ret fun a_ ha_ => hQ (cv_ret2 rfl (.agg rfl ty_agg_26_5 k51.range rfl) (.tmp rfl) (.inr ⟨1, rfl, by decide, withJ_1 (by rw [er_kind, Bool.and_eq_true, decide_eq_true_eq]; rintro ⟨⟨e0, e1⟩, e2, e3⟩; simp_all)⟩) hB ha_)
    ·
     replace c47 := bnot_f c47
     refine WC.skip (hK20 (Sq fun K52 hK52 => (Sq fun K53 hK53 => (Rg (Va (dx_loadN rfl ty_agg_26_5 rfl k8.range rfl) rfl rfl ?_)))))
     refine Ge (dx_cv rfl Try.func21 rfl rfl rfl (rDeep_v n q W46 _ hL (show RdT (n + 1) (W7.heap.size :: W2.heap.size :: w.heap.size :: L) W46 q from ⟨hnq, hiq, hcq⟩))) rfl rfl ?_
     rintro _ W55 ⟨rfl, b54⟩
     replace hnp := hnp.below b54
     replace hip := hip.below b54
     replace hcp := hcp.below b54
     replace hnq := hnq.below b54
     replace hiq := hiq.below b54
     replace hcq := hcq.below b54
     replace k3 := k3.below b54
     replace k8 := k8.below b54
     replace k14 := k14.below b54
     replace hB := below_then hB b54
     replace hL := LL.below hL b54
     refine Va (dx_geq rfl rfl rfl) rfl rfl (Ni (hK53 ?_))
     refine WC.cond rfl (fun c56 => ?_) (fun c56 => ?_)
     ·
      replace c56 := dT c56
      refine Sq fun K57 hK57 => (Rg (Va (dx_build rfl rfl (built_of_O (cs := zV) (by kernel_rfl) oc_nil)) rfl rfl ?_))
      refine WL.do (dx_store (cs' := zV) (vs := zV) rfl ty_size_26_5 rfl rfl rfl (oc_cons rfl (oc_cons rfl (oc_cons rfl (oc_cons rfl (oc_cons rfl oc_nil))))) k14 rfl (Nat.le_of_ble_eq_true rfl) rfl) rfl ?_
      rintro _ W58 ⟨k60, o59⟩
      clear k14
      replace hB := o59.below hB l19
      refine Pu rfl (Ni (hK57 ?_))
      exact WC.ret fun a_ ha_ => hQ (cv_ret2 rfl (.agg rfl ty_agg_26_5 k60.range rfl) (.tmp rfl) (.inr ⟨4, rfl, by decide, withJ_4 (by rw [er_kind, Bool.and_eq_true, decide_eq_true_eq]; constructor <;> first | assumption | omega | simp_all) (by first | assumption | simp_all) (by first | assumption | simp_all) (by omega)⟩) hB ha_)
     ·
      replace c56 := dF c56
      refine WC.skip (hK52 (Sq fun K61 hK61 => ?_))
      have hro : (decide (p.er.kind = 6) && rightJ upB 12 p.er) = true := by rw [er_kind, Bool.and_eq_true, decide_eq_true_eq]; constructor <;> first | assumption | omega | simp_all
      have hxo : rightJ upB 12 q.er = true := by first | assumption | simp_all
      have huo : upB name = true := by first | assumption | simp_all
      have hko := of_decide_eq_true (Bool.and_eq_true_iff.1 hro).1
      obtain ⟨hris, hlen⟩ := obj_right hko (Bool.and_eq_true_iff.1 hro).2
      rw [er_names] at hris
      rw [er_names, er_items, List.length_map] at hlen
      refine Rg (Va (dx_loadN rfl ty_agg_26_5 rfl k3.range rfl) rfl rfl (Pu rfl (Va (dx_loadN rfl ty_agg_26_5 rfl k8.range rfl) rfl rfl ?_)))
      refine Ge (dx_cv rfl Try.func52 rfl rfl rfl (refPut_v n p q name W55 _ hL (show RdT (n + 1) (W7.heap.size :: W2.heap.size :: w.heap.size :: L) W55 p from ⟨hnp, hip, hcp⟩) (show RdT (n + 1) (W7.heap.size :: W2.heap.size :: w.heap.size :: L) W55 q from ⟨hnq, hiq, hcq⟩) hris hlen hzp.2.1)) rfl rfl ?_
      rintro _ W63 ⟨⟨t, rfl, hte, htt⟩, b62⟩
      replace k14 := k14.below b62
      replace hB := below_then hB b62
      refine WL.do (dx_store (cs' := [.int .i64 t.kind, .int .i64 t.num, .string t.text, t.nv, t.iv]) (vs := [.int .i64 t.kind, .int .i64 t.num, .string t.text, t.nv, t.iv]) rfl ty_size_26_5 rfl rfl rfl (oc_cons rfl (oc_cons rfl (oc_cons rfl (oc_cons (htt.1).one (oc_cons (htt.2.1).one oc_nil))))) k14 rfl (Nat.le_of_ble_eq_true rfl) rfl) rfl ?_
      rintro _ W64 ⟨k66, o65⟩
      clear k14
      replace htt := htt.only o65 (.head _)
      replace hB := o65.below hB l19
      refine Pu rfl (Ni (hK61 ?_))
      exact WC.ret fun a_ ha_ => hQ (cv_ret2 rfl (.agg rfl ty_agg_26_5 k66.range rfl) (.tmp rfl) (.inl ⟨t, rfl, (by rw [withJ_ok hro hxo huo (by omega), hte]), (htt.less (fun x hx => (.tail _ (.tail _ (.tail _ hx)))))⟩) hB ha_)

theorem refWithK_v (n : Nat) (p q : Tr) (name : ByteArray) (j : Js) (w : World) (L : List Nat) (hL : LL L w) (h1 : RdT (n + 1) L w p) (h2 : RdT (n + 1) L w q) (z1 : SzT 1000000 (n + 1) p) (z2 : SzT 1000000 (n + 1) q) (z3 : name.size ≤ 1000000) (h : withJ p.er name q.er = .ok j) : CV Try.prog 25 [.agg #[.int .i64 p.kind, .int .i64 p.num, .string p.text, p.nv, p.iv], .string name, .agg #[.int .i64 q.kind, .int .i64 q.num, .string q.text, q.nv, q.iv]] w fun v W => ∃ t, v = .tuple #[.agg #[.int .i64 t.kind, .int .i64 t.num, .string t.text, t.nv, t.iv], .int .i64 0] ∧ t.er = j ∧ RdT (n + 1 + 1) L W t :=
 (refWith_v n p q name w L hL h1 h2 z1 z2 z3).mono fun v W _ k => by
  rcases k with ⟨t, e1, e2, e3⟩ | ⟨e, _, _, e2⟩
  · rw [h] at e2; exact ⟨t, e1, (Except.ok.inj e2).symm, e3⟩
  · rw [h] at e2; cases e2
theorem refWithX_v (n : Nat) (p q : Tr) (name : ByteArray) (c : Int) (w : World) (L : List Nat) (hL : LL L w) (h1 : RdT (n + 1) L w p) (h2 : RdT (n + 1) L w q) (z1 : SzT 1000000 (n + 1) p) (z2 : SzT 1000000 (n + 1) q) (z3 : name.size ≤ 1000000) (h : withJ p.er name q.er = .error c) : CV Try.prog 25 [.agg #[.int .i64 p.kind, .int .i64 p.num, .string p.text, p.nv, p.iv], .string name, .agg #[.int .i64 q.kind, .int .i64 q.num, .string q.text, q.nv, q.iv]] w fun v W => v = .tuple #[.agg #[.int .i64 0, .int .i64 0, .string ⟨#[]⟩, .slice none 0 0, .slice none 0 0], .int .i64 c] :=
 (refWith_v n p q name w L hL h1 h2 z1 z2 z3).mono fun v W _ k => by
  rcases k with ⟨t, e1, e2, e3⟩ | ⟨e, e1, _, e2⟩
  · rw [h] at e2; cases e2
  · rw [h] at e2; rw [Except.error.inj e2]; exact e1
theorem alikeZ_v (w : World) : CV Try.prog 14 [.agg #[.int .i64 0, .int .i64 0, .string ⟨#[]⟩, .slice none 0 0, .slice none 0 0], .agg #[.int .i64 0, .int .i64 0, .string ⟨#[]⟩, .slice none 0 0, .slice none 0 0]] w fun v W => v = .bool true := by
 have e := alike_v 0 noT noT w [] (LL.nil _) (noT_rd 0 [] w) (noT_rd 0 [] w)
 rw [eqJ_t rfl] at e
 exact e
set_option maxHeartbeats 2000000 in
theorem JsonWith_v (n : Nat) (p q : Tr) (name : ByteArray) (w : World) (L : List Nat) (hL : LL L w) (htp : RdT (n + 1) L w p) (htq : RdT (n + 1) L w q) : CV Try.prog 5 [.agg #[.int .i64 p.kind, .int .i64 p.num, .string p.text, p.nv, p.iv], .agg #[.int .i64 q.kind, .int .i64 q.num, .string q.text, q.nv, q.iv], .string name] w fun v W => v = .bool true := by
 refine cv_enter (N := 59) (f := [(0, .agg #[.int .i64 p.kind, .int .i64 p.num, .string p.text, p.nv, p.iv]), (1, .agg #[.int .i64 q.kind, .int .i64 q.num, .string q.text, q.nv, q.iv]), (2, .string name)]) Try.func5 rfl rfl rfl rfl fun Q hQ hE => ?_
 have hB := Below.refl w.heap.size w
 refine Sq fun K1 hK1 => ?_
 obtain ⟨hnp, hip, hcp⟩ := htp
 replace hcp : RdTs n (L) w p.items := hcp
 obtain ⟨hnq, hiq, hcq⟩ := htq
 replace hcq : RdTs n (L) w q.items := hcq
 refine Rg ?_
 refine Ge (dx_box rfl rfl rfl) rfl rfl ?_
 rintro _ W2 ⟨rfl, k3, b4, z5⟩
 have l6 := hB.size
 replace hnp := hnp.more b4 (Nat.le_refl _)
 replace hip := hip.more b4 (Nat.le_refl _)
 replace hcp := hcp.more b4 (Nat.le_refl _)
 replace hnq := hnq.more b4 (Nat.le_refl _)
 replace hiq := hiq.more b4 (Nat.le_refl _)
 replace hcq := hcq.more b4 (Nat.le_refl _)
 replace hB := below_then hB b4
 replace hL := LL.more hL z5
 refine Ge (dx_box rfl rfl rfl) rfl rfl ?_
 rintro _ W7 ⟨rfl, k8, b9, z10⟩
 have l12 := hB.size
 replace hnp := hnp.more b9 (Nat.le_refl _)
 replace hip := hip.more b9 (Nat.le_refl _)
 replace hcp := hcp.more b9 (Nat.le_refl _)
 replace hnq := hnq.more b9 (Nat.le_refl _)
 replace hiq := hiq.more b9 (Nat.le_refl _)
 replace hcq := hcq.more b9 (Nat.le_refl _)
 replace k3 := k3.below b9
 replace hB := below_then hB b9
 replace hL := LL.more hL z10
 refine Pu rfl (Ni (hK1 (Sq fun K13 hK13 => (Sq fun K14 hK14 => (Rg ?_)))))
 refine Ge (dx_cv rfl Try.func11 rfl rfl rfl (alive_v W7 _ hL)) rfl rfl ?_
 rintro _ W16 ⟨rfl, b15⟩
 replace hnp := hnp.below b15
 replace hip := hip.below b15
 replace hcp := hcp.below b15
 replace hnq := hnq.below b15
 replace hiq := hiq.below b15
 replace hcq := hcq.below b15
 replace k3 := k3.below b15
 replace k8 := k8.below b15
 replace hB := below_then hB b15
 replace hL := LL.below hL b15
 refine Va (dx_not rfl rfl) rfl rfl (Ni (hK14 (WC.condF rfl (WC.skip (hK13 (Sq fun K17 hK17 => (Sq fun K18 hK18 => ?_)))))))
 refine Rg (Va (dx_loadN rfl ty_agg_26_5 rfl k3.range rfl) rfl rfl (Va (dx_loadN rfl ty_agg_26_5 rfl k8.range rfl) rfl rfl ?_))
 refine Ge (dx_lit25 rfl ty_ap_24 rfl rfl) rfl rfl ?_
 rintro u19 W20 ⟨k21, b22, z23⟩
 have l26 := hB.size
 replace hnp := hnp.more b22 (Nat.le_refl _)
 replace hip := hip.more b22 (Nat.le_refl _)
 replace hcp := hcp.more b22 (Nat.le_refl _)
 replace hnq := hnq.more b22 (Nat.le_refl _)
 replace hiq := hiq.more b22 (Nat.le_refl _)
 replace hcq := hcq.more b22 (Nat.le_refl _)
 replace k3 := k3.below b22
 replace k8 := k8.below b22
 replace hB := below_then hB b22
 replace hL := LL.more hL z23
 refine Ge (dx_cv rfl Try.func16 rfl rfl rfl (great_v n [p, q] _ W20 [] (LL.nil _) (k21.rd (L := []) (by simp)) (fun c hc => by simp only [List.mem_cons, List.not_mem_nil, or_false] at hc; rcases hc with h_ | h_; rw [h_]; exact ((show RdT (n + 1) (W16.heap.size :: W2.heap.size :: w.heap.size :: L) W20 p from ⟨hnp, hip, hcp⟩).less (fun x hx => by cases hx)); rw [h_]; exact ((show RdT (n + 1) (W16.heap.size :: W2.heap.size :: w.heap.size :: L) W20 q from ⟨hnq, hiq, hcq⟩).less (fun x hx => by cases hx))) (by simp))) rfl rfl ?_
 rintro _ W28 ⟨⟨gb, rfl, hgs⟩, b27⟩
 replace hnp := hnp.below b27
 replace hip := hip.below b27
 replace hcp := hcp.below b27
 replace hnq := hnq.below b27
 replace hiq := hiq.below b27
 replace hcq := hcq.below b27
 replace k3 := k3.below b27
 replace k8 := k8.below b27
 replace hB := below_then hB b27
 replace hL := LL.below hL b27
 refine Pu rfl ?_
 refine WL.split 19 rfl (fun g29 => ?_) (fun g29 => ?_)
 ·
  refine Of rfl (Of rfl (Of rfl (Pu rfl (Ni (hK18 (WC.condT rfl (Sq fun K30 hK30 => ?_)))))))
  refine Rg (Pu rfl (Ni (hK30 ?_)))
  exact WC.ret fun a_ ha_ => hQ (cv_ret1 rfl (.tmp rfl) rfl hB ha_)
 ·
  replace g29 := bvar_f g29
  refine Pu rfl (Va (dx_lenT rfl Try.underlying9 rfl) rfl rfl (Va (dx_gtr rfl rfl rfl) rfl rfl (Pu rfl (Ni (hK18 ?_)))))
  refine WC.cond rfl (fun c31 => ?_) (fun c31 => ?_)
  ·
   replace c31 := dT c31
   refine Sq fun K32 hK32 => (Rg (Pu rfl (Ni (hK32 ?_))))
   exact WC.ret fun a_ ha_ => hQ (cv_ret1 rfl (.tmp rfl) rfl hB ha_)
  ·
   replace c31 := dF c31
   refine WC.skip (hK17 (Sq fun K33 hK33 => ?_))
   have hsp := hgs (by first | assumption | simp_all) p (.head _)
   have hzp := hsp.le (show 1000 ≤ 1000000 by omega)
   have hsq := hgs (by first | assumption | simp_all) q (.tail _ (.head _))
   have hzq := hsq.le (show 1000 ≤ 1000000 by omega)
   have hsa : name.size ≤ 1000 := by omega
   rcases hw : withJ p.er name q.er with c | j
   ·
    refine Rg (Va (dx_loadN rfl ty_agg_26_5 rfl k3.range rfl) rfl rfl (Pu rfl (Va (dx_loadN rfl ty_agg_26_5 rfl k8.range rfl) rfl rfl ?_)))
    refine Ge (dx_cv rfl Try.func24 rfl rfl rfl (withX_v n p q name c W28 _ hL (show RdT (n + 1) (W16.heap.size :: W2.heap.size :: w.heap.size :: L) W28 p from ⟨hnp, hip, hcp⟩) (show RdT (n + 1) (W16.heap.size :: W2.heap.size :: w.heap.size :: L) W28 q from ⟨hnq, hiq, hcq⟩) hzp hzq (by omega) hw)) rfl rfl ?_
    rintro _ W35 ⟨rfl, b34⟩
    replace hnp := hnp.below b34
    replace hip := hip.below b34
    replace hcp := hcp.below b34
    replace hnq := hnq.below b34
    replace hiq := hiq.below b34
    replace hcq := hcq.below b34
    replace k3 := k3.below b34
    replace k8 := k8.below b34
    replace hB := below_then hB b34
    replace hL := LL.below hL b34
    refine Pu rfl (Pu rfl (Pu rfl ?_))
    refine Ge (dx_alloc rfl ty_zero_26 rfl) rfl rfl ?_
    rintro _ W36 ⟨rfl, k37, b38, z39⟩
    have n40 : w.heap.size ≠ W35.heap.size := Nat.ne_of_lt k3.lt
    have n41 : W2.heap.size ≠ W35.heap.size := Nat.ne_of_lt k8.lt
    have l43 := hB.size
    replace hnp := hnp.more b38 (Nat.le_refl _)
    replace hip := hip.more b38 (Nat.le_refl _)
    replace hcp := hcp.more b38 (Nat.le_refl _)
    replace hnq := hnq.more b38 (Nat.le_refl _)
    replace hiq := hiq.more b38 (Nat.le_refl _)
    replace hcq := hcq.more b38 (Nat.le_refl _)
    replace k3 := k3.below b38
    replace k8 := k8.below b38
    replace hB := below_then hB b38
    replace hL := LL.more hL z39
    refine WL.do (dx_store (cs' := zV) (vs := zV) rfl ty_size_26_5 rfl rfl rfl (oc_cons rfl (oc_cons rfl (oc_cons rfl (oc_cons rfl (oc_cons rfl oc_nil))))) k37 rfl (Nat.le_of_ble_eq_true rfl) rfl) rfl ?_
    rintro _ W44 ⟨k46, o45⟩
    replace k3 := k3.other o45 n40
    replace k8 := k8.other o45 n41
    clear k37
    replace hnp := hnp.only o45 (.head _)
    replace hip := hip.only o45 (.head _)
    replace hcp := hcp.only o45 (.head _)
    replace hnq := hnq.only o45 (.head _)
    replace hiq := hiq.only o45 (.head _)
    replace hcq := hcq.only o45 (.head _)
    replace hB := o45.below hB l43
    replace hL := LL.only hL o45
    refine Pu rfl (Ni (hK33 (Sq fun K47 hK47 => (Rg (Va (dx_loadN rfl ty_agg_26_5 rfl k3.range rfl) rfl rfl (Pu rfl (Va (dx_loadN rfl ty_agg_26_5 rfl k8.range rfl) rfl rfl ?_)))))))
    refine Ge (dx_cv rfl Try.func25 rfl rfl rfl (refWithX_v n p q name c W44 _ hL (show RdT (n + 1) (W35.heap.size :: W16.heap.size :: W2.heap.size :: w.heap.size :: L) W44 p from ⟨hnp, hip, hcp⟩) (show RdT (n + 1) (W35.heap.size :: W16.heap.size :: W2.heap.size :: w.heap.size :: L) W44 q from ⟨hnq, hiq, hcq⟩) hzp hzq (by omega) hw)) rfl rfl ?_
    rintro _ W49 ⟨rfl, b48⟩
    replace hnp := hnp.below b48
    replace hip := hip.below b48
    replace hcp := hcp.below b48
    replace k3 := k3.below b48
    replace k46 := k46.below b48
    replace hB := below_then hB b48
    replace hL := LL.below hL b48
    refine Pu rfl (Pu rfl (Pu rfl ?_))
    refine Ge (dx_alloc rfl ty_zero_26 rfl) rfl rfl ?_
    rintro _ W50 ⟨rfl, k51, b52, z53⟩
    have n54 : w.heap.size ≠ W49.heap.size := Nat.ne_of_lt k3.lt
    have n57 : W35.heap.size ≠ W49.heap.size := Nat.ne_of_lt k46.lt
    have l58 := hB.size
    replace hnp := hnp.more b52 (Nat.le_refl _)
    replace hip := hip.more b52 (Nat.le_refl _)
    replace hcp := hcp.more b52 (Nat.le_refl _)
    replace k3 := k3.below b52
    replace k46 := k46.below b52
    replace hB := below_then hB b52
    replace hL := LL.more hL z53
    refine WL.do (dx_store (cs' := zV) (vs := zV) rfl ty_size_26_5 rfl rfl rfl (oc_cons rfl (oc_cons rfl (oc_cons rfl (oc_cons rfl (oc_cons rfl oc_nil))))) k51 rfl (Nat.le_of_ble_eq_true rfl) rfl) rfl ?_
    rintro _ W59 ⟨k61, o60⟩
    replace k3 := k3.other o60 n54
    replace k46 := k46.other o60 n57
    clear k51
    replace hnp := hnp.only o60 (.head _)
    replace hip := hip.only o60 (.head _)
    replace hcp := hcp.only o60 (.head _)
    replace hB := o60.below hB l58
    replace hL := LL.only hL o60
    refine Pu rfl (Ni (hK47 (Sq fun K62 hK62 => (Rg (Va (dx_loadN rfl ty_agg_26_5 rfl k3.range rfl) rfl rfl (Pu rfl ?_))))))
    refine Ge (dx_lit2 rfl ty_ap_23 rfl rfl rfl rfl) rfl rfl ?_
    rintro u63 W64 ⟨k65, b66, z67⟩
    have hg68 := k65.notin hL (Nat.le_refl _)
    replace hnp := hnp.below b66
    replace hip := hip.below b66
    replace hcp := hcp.below b66
    replace k3 := k3.below b66
    replace k46 := k46.below b66
    replace k61 := k61.below b66
    replace hB := below_then hB b66
    replace hL := LL.below hL b66
    refine Ge (dx_cv rfl Try.func26 rfl rfl rfl (jWithout_v n p [name, ⟨#[98]⟩] _ W64 _ hL (show RdT (n + 1) (W49.heap.size :: W35.heap.size :: W16.heap.size :: W2.heap.size :: w.heap.size :: L) W64 p from ⟨hnp, hip, hcp⟩) (RdF.less (L' := []) hg68 (fun x hx => by cases hx)) hzp (by simp))) rfl rfl ?_
    rintro _ W70 ⟨⟨c, rfl, hce, hct⟩, b69⟩
    replace hnp := hnp.below b69
    replace hip := hip.below b69
    replace hcp := hcp.below b69
    replace k3 := k3.below b69
    replace k46 := k46.below b69
    replace k61 := k61.below b69
    replace hB := below_then hB b69
    replace hL := LL.below hL b69
    obtain ⟨hnc, hic, hcc⟩ := hct
    replace hcc : RdTs (n) (W49.heap.size :: W35.heap.size :: W16.heap.size :: W2.heap.size :: w.heap.size :: L) W70 c.items := hcc
    refine Ge (dx_alloc rfl ty_zero_26 rfl) rfl rfl ?_
    rintro _ W71 ⟨rfl, k72, b73, z74⟩
    have n75 : w.heap.size ≠ W70.heap.size := Nat.ne_of_lt k3.lt
    have n78 : W35.heap.size ≠ W70.heap.size := Nat.ne_of_lt k46.lt
    have n79 : W49.heap.size ≠ W70.heap.size := Nat.ne_of_lt k61.lt
    have l80 := hB.size
    replace hnp := hnp.more b73 (Nat.le_refl _)
    replace hip := hip.more b73 (Nat.le_refl _)
    replace hcp := hcp.more b73 (Nat.le_refl _)
    replace hnc := hnc.more b73 (Nat.le_refl _)
    replace hic := hic.more b73 (Nat.le_refl _)
    replace hcc := hcc.more b73 (Nat.le_refl _)
    replace k3 := k3.below b73
    replace k46 := k46.below b73
    replace k61 := k61.below b73
    replace hB := below_then hB b73
    replace hL := LL.more hL z74
    refine WL.do (dx_store (cs' := [.int .i64 c.kind, .int .i64 c.num, .string c.text, c.nv, c.iv]) (vs := [.int .i64 c.kind, .int .i64 c.num, .string c.text, c.nv, c.iv]) rfl ty_size_26_5 rfl rfl rfl (oc_cons rfl (oc_cons rfl (oc_cons rfl (oc_cons hnc.one (oc_cons hic.one oc_nil))))) k72 rfl (Nat.le_of_ble_eq_true rfl) rfl) rfl ?_
    rintro _ W81 ⟨k83, o82⟩
    replace k3 := k3.other o82 n75
    replace k46 := k46.other o82 n78
    replace k61 := k61.other o82 n79
    clear k72
    replace hnp := hnp.only o82 (.head _)
    replace hip := hip.only o82 (.head _)
    replace hcp := hcp.only o82 (.head _)
    replace hnc := hnc.only o82 (.head _)
    replace hic := hic.only o82 (.head _)
    replace hcc := hcc.only o82 (.head _)
    replace hB := o82.below hB l80
    replace hL := LL.only hL o82
    refine Ni (hK62 (Sq fun K84 hK84 => (Rg (Va (dx_loadN rfl ty_agg_26_5 rfl k3.range rfl) rfl rfl (Pu rfl ?_)))))
    refine Ge (dx_lit2 rfl ty_ap_23 rfl rfl rfl rfl) rfl rfl ?_
    rintro u85 W86 ⟨k87, b88, z89⟩
    have hg90 := k87.notin hL (Nat.le_refl _)
    replace hnp := hnp.below b88
    replace hip := hip.below b88
    replace hcp := hcp.below b88
    replace hnc := hnc.below b88
    replace hic := hic.below b88
    replace hcc := hcc.below b88
    replace k46 := k46.below b88
    replace k61 := k61.below b88
    replace k83 := k83.below b88
    replace hB := below_then hB b88
    replace hL := LL.below hL b88
    refine Ge (dx_cv rfl Try.func27 rfl rfl rfl (refWithout_v n p [name, ⟨#[98]⟩] _ W86 _ hL (show RdT (n + 1) (W70.heap.size :: W49.heap.size :: W35.heap.size :: W16.heap.size :: W2.heap.size :: w.heap.size :: L) W86 p from ⟨hnp, hip, hcp⟩) hg90 hzp (by simp))) rfl rfl ?_
    rintro _ W92 ⟨⟨d, rfl, hde, hdt⟩, b91⟩
    replace hnc := hnc.below b91
    replace hic := hic.below b91
    replace hcc := hcc.below b91
    replace k46 := k46.below b91
    replace k61 := k61.below b91
    replace k83 := k83.below b91
    replace hB := below_then hB b91
    replace hL := LL.below hL b91
    obtain ⟨hnd, hid, hcd⟩ := hdt
    replace hcd : RdTs (n) (W70.heap.size :: W49.heap.size :: W35.heap.size :: W16.heap.size :: W2.heap.size :: w.heap.size :: L) W92 d.items := hcd
    refine Ge (dx_alloc rfl ty_zero_26 rfl) rfl rfl ?_
    rintro _ W93 ⟨rfl, k94, b95, z96⟩
    have n100 : W35.heap.size ≠ W92.heap.size := Nat.ne_of_lt k46.lt
    have n101 : W49.heap.size ≠ W92.heap.size := Nat.ne_of_lt k61.lt
    have n102 : W70.heap.size ≠ W92.heap.size := Nat.ne_of_lt k83.lt
    have l103 := hB.size
    replace hnc := hnc.more b95 (Nat.le_refl _)
    replace hic := hic.more b95 (Nat.le_refl _)
    replace hcc := hcc.more b95 (Nat.le_refl _)
    replace hnd := hnd.more b95 (Nat.le_refl _)
    replace hid := hid.more b95 (Nat.le_refl _)
    replace hcd := hcd.more b95 (Nat.le_refl _)
    replace k46 := k46.below b95
    replace k61 := k61.below b95
    replace k83 := k83.below b95
    replace hB := below_then hB b95
    replace hL := LL.more hL z96
    refine WL.do (dx_store (cs' := [.int .i64 d.kind, .int .i64 d.num, .string d.text, d.nv, d.iv]) (vs := [.int .i64 d.kind, .int .i64 d.num, .string d.text, d.nv, d.iv]) rfl ty_size_26_5 rfl rfl rfl (oc_cons rfl (oc_cons rfl (oc_cons rfl (oc_cons hnd.one (oc_cons hid.one oc_nil))))) k94 rfl (Nat.le_of_ble_eq_true rfl) rfl) rfl ?_
    rintro _ W104 ⟨k106, o105⟩
    replace k46 := k46.other o105 n100
    replace k61 := k61.other o105 n101
    replace k83 := k83.other o105 n102
    clear k94
    replace hnc := hnc.only o105 (.head _)
    replace hic := hic.only o105 (.head _)
    replace hcc := hcc.only o105 (.head _)
    replace hnd := hnd.only o105 (.head _)
    replace hid := hid.only o105 (.head _)
    replace hcd := hcd.only o105 (.head _)
    replace hB := o105.below hB l103
    replace hL := LL.only hL o105
    refine Ni (hK84 (Sq fun K107 hK107 => (Rg (Va (dx_loadN rfl ty_agg_26_5 rfl k46.range rfl) rfl rfl (Va (dx_loadN rfl ty_agg_26_5 rfl k61.range rfl) rfl rfl ?_)))))
    refine Ge (dx_cv rfl Try.func14 rfl rfl rfl (alikeZ_v W104)) rfl rfl ?_
    rintro _ W109 ⟨rfl, b108⟩
    replace hnc := hnc.below b108
    replace hic := hic.below b108
    replace hcc := hcc.below b108
    replace hnd := hnd.below b108
    replace hid := hid.below b108
    replace hcd := hcd.below b108
    replace k83 := k83.below b108
    replace k106 := k106.below b108
    replace hB := below_then hB b108
    replace hL := LL.below hL b108
    refine Pu rfl (Pu rfl (Pu rfl (Va (dv_T (dx_eql rfl rfl rfl) rfl) rfl rfl (Pu rfl (Pu rfl (Va (dx_loadN rfl ty_agg_26_5 rfl k83.range rfl) rfl rfl (Va (dx_loadN rfl ty_agg_26_5 rfl k106.range rfl) rfl rfl ?_)))))))
    refine Ge (dx_cv rfl Try.func14 rfl rfl rfl (alikeE_v (n) c d W109 _ hL (show RdT (n + 1) (W92.heap.size :: W70.heap.size :: W49.heap.size :: W35.heap.size :: W16.heap.size :: W2.heap.size :: w.heap.size :: L) W109 c from ⟨hnc, hic, hcc⟩) (show RdT (n + 1) (W92.heap.size :: W70.heap.size :: W49.heap.size :: W35.heap.size :: W16.heap.size :: W2.heap.size :: w.heap.size :: L) W109 d from ⟨hnd, hid, hcd⟩) (hce.trans hde.symm))) rfl rfl ?_
    rintro _ W111 ⟨rfl, b110⟩
    replace hB := below_then hB b110
    refine Pu rfl (Pu rfl (Ni (hK107 ?_)))
    exact WC.ret fun a_ ha_ => hQ (cv_ret1 rfl (.tmp rfl) rfl hB ha_)
   ·
    refine Rg (Va (dx_loadN rfl ty_agg_26_5 rfl k3.range rfl) rfl rfl (Pu rfl (Va (dx_loadN rfl ty_agg_26_5 rfl k8.range rfl) rfl rfl ?_)))
    refine Ge (dx_cv rfl Try.func24 rfl rfl rfl (withK_v n p q name _ W28 _ hL (show RdT (n + 1) (W16.heap.size :: W2.heap.size :: w.heap.size :: L) W28 p from ⟨hnp, hip, hcp⟩) (show RdT (n + 1) (W16.heap.size :: W2.heap.size :: w.heap.size :: L) W28 q from ⟨hnq, hiq, hcq⟩) hzp hzq (by omega) hw)) rfl rfl ?_
    rintro _ W113 ⟨⟨a, rfl, hae, hat⟩, b112⟩
    replace hnp := hnp.below b112
    replace hip := hip.below b112
    replace hcp := hcp.below b112
    replace hnq := hnq.below b112
    replace hiq := hiq.below b112
    replace hcq := hcq.below b112
    replace k3 := k3.below b112
    replace k8 := k8.below b112
    replace hB := below_then hB b112
    replace hL := LL.below hL b112
    obtain ⟨hna, hia, hca⟩ := hat
    replace hca : RdTs (n + 1) (W16.heap.size :: W2.heap.size :: w.heap.size :: L) W113 a.items := hca
    refine Pu rfl (Pu rfl (Pu rfl ?_))
    refine Ge (dx_alloc rfl ty_zero_26 rfl) rfl rfl ?_
    rintro _ W114 ⟨rfl, k115, b116, z117⟩
    have n118 : w.heap.size ≠ W113.heap.size := Nat.ne_of_lt k3.lt
    have n119 : W2.heap.size ≠ W113.heap.size := Nat.ne_of_lt k8.lt
    have l121 := hB.size
    replace hnp := hnp.more b116 (Nat.le_refl _)
    replace hip := hip.more b116 (Nat.le_refl _)
    replace hcp := hcp.more b116 (Nat.le_refl _)
    replace hnq := hnq.more b116 (Nat.le_refl _)
    replace hiq := hiq.more b116 (Nat.le_refl _)
    replace hcq := hcq.more b116 (Nat.le_refl _)
    replace hna := hna.more b116 (Nat.le_refl _)
    replace hia := hia.more b116 (Nat.le_refl _)
    replace hca := hca.more b116 (Nat.le_refl _)
    replace k3 := k3.below b116
    replace k8 := k8.below b116
    replace hB := below_then hB b116
    replace hL := LL.more hL z117
    refine WL.do (dx_store (cs' := [.int .i64 a.kind, .int .i64 a.num, .string a.text, a.nv, a.iv]) (vs := [.int .i64 a.kind, .int .i64 a.num, .string a.text, a.nv, a.iv]) rfl ty_size_26_5 rfl rfl rfl (oc_cons rfl (oc_cons rfl (oc_cons rfl (oc_cons hna.one (oc_cons hia.one oc_nil))))) k115 rfl (Nat.le_of_ble_eq_true rfl) rfl) rfl ?_
    rintro _ W122 ⟨k124, o123⟩
    replace k3 := k3.other o123 n118
    replace k8 := k8.other o123 n119
    clear k115
    replace hnp := hnp.only o123 (.head _)
    replace hip := hip.only o123 (.head _)
    replace hcp := hcp.only o123 (.head _)
    replace hnq := hnq.only o123 (.head _)
    replace hiq := hiq.only o123 (.head _)
    replace hcq := hcq.only o123 (.head _)
    replace hna := hna.only o123 (.head _)
    replace hia := hia.only o123 (.head _)
    replace hca := hca.only o123 (.head _)
    replace hB := o123.below hB l121
    replace hL := LL.only hL o123
    refine Pu rfl (Ni (hK33 (Sq fun K125 hK125 => (Rg (Va (dx_loadN rfl ty_agg_26_5 rfl k3.range rfl) rfl rfl (Pu rfl (Va (dx_loadN rfl ty_agg_26_5 rfl k8.range rfl) rfl rfl ?_)))))))
    refine Ge (dx_cv rfl Try.func25 rfl rfl rfl (refWithK_v n p q name _ W122 _ hL (show RdT (n + 1) (W113.heap.size :: W16.heap.size :: W2.heap.size :: w.heap.size :: L) W122 p from ⟨hnp, hip, hcp⟩) (show RdT (n + 1) (W113.heap.size :: W16.heap.size :: W2.heap.size :: w.heap.size :: L) W122 q from ⟨hnq, hiq, hcq⟩) hzp hzq (by omega) hw)) rfl rfl ?_
    rintro _ W127 ⟨⟨b, rfl, hbe, hbt⟩, b126⟩
    replace hnp := hnp.below b126
    replace hip := hip.below b126
    replace hcp := hcp.below b126
    replace hna := hna.below b126
    replace hia := hia.below b126
    replace hca := hca.below b126
    replace k3 := k3.below b126
    replace k124 := k124.below b126
    replace hB := below_then hB b126
    replace hL := LL.below hL b126
    obtain ⟨hnb, hib, hcb⟩ := hbt
    replace hcb : RdTs (n + 1) (W113.heap.size :: W16.heap.size :: W2.heap.size :: w.heap.size :: L) W127 b.items := hcb
    refine Pu rfl (Pu rfl (Pu rfl ?_))
    refine Ge (dx_alloc rfl ty_zero_26 rfl) rfl rfl ?_
    rintro _ W128 ⟨rfl, k129, b130, z131⟩
    have n132 : w.heap.size ≠ W127.heap.size := Nat.ne_of_lt k3.lt
    have n135 : W113.heap.size ≠ W127.heap.size := Nat.ne_of_lt k124.lt
    have l136 := hB.size
    replace hnp := hnp.more b130 (Nat.le_refl _)
    replace hip := hip.more b130 (Nat.le_refl _)
    replace hcp := hcp.more b130 (Nat.le_refl _)
    replace hna := hna.more b130 (Nat.le_refl _)
    replace hia := hia.more b130 (Nat.le_refl _)
    replace hca := hca.more b130 (Nat.le_refl _)
    replace hnb := hnb.more b130 (Nat.le_refl _)
    replace hib := hib.more b130 (Nat.le_refl _)
    replace hcb := hcb.more b130 (Nat.le_refl _)
    replace k3 := k3.below b130
    replace k124 := k124.below b130
    replace hB := below_then hB b130
    replace hL := LL.more hL z131
    refine WL.do (dx_store (cs' := [.int .i64 b.kind, .int .i64 b.num, .string b.text, b.nv, b.iv]) (vs := [.int .i64 b.kind, .int .i64 b.num, .string b.text, b.nv, b.iv]) rfl ty_size_26_5 rfl rfl rfl (oc_cons rfl (oc_cons rfl (oc_cons rfl (oc_cons hnb.one (oc_cons hib.one oc_nil))))) k129 rfl (Nat.le_of_ble_eq_true rfl) rfl) rfl ?_
    rintro _ W137 ⟨k139, o138⟩
    replace k3 := k3.other o138 n132
    replace k124 := k124.other o138 n135
    clear k129
    replace hnp := hnp.only o138 (.head _)
    replace hip := hip.only o138 (.head _)
    replace hcp := hcp.only o138 (.head _)
    replace hna := hna.only o138 (.head _)
    replace hia := hia.only o138 (.head _)
    replace hca := hca.only o138 (.head _)
    replace hnb := hnb.only o138 (.head _)
    replace hib := hib.only o138 (.head _)
    replace hcb := hcb.only o138 (.head _)
    replace hB := o138.below hB l136
    replace hL := LL.only hL o138
    refine Pu rfl (Ni (hK125 (Sq fun K140 hK140 => (Rg (Va (dx_loadN rfl ty_agg_26_5 rfl k3.range rfl) rfl rfl (Pu rfl ?_))))))
    refine Ge (dx_lit2 rfl ty_ap_23 rfl rfl rfl rfl) rfl rfl ?_
    rintro u141 W142 ⟨k143, b144, z145⟩
    have hg146 := k143.notin hL (Nat.le_refl _)
    replace hnp := hnp.below b144
    replace hip := hip.below b144
    replace hcp := hcp.below b144
    replace hna := hna.below b144
    replace hia := hia.below b144
    replace hca := hca.below b144
    replace hnb := hnb.below b144
    replace hib := hib.below b144
    replace hcb := hcb.below b144
    replace k3 := k3.below b144
    replace k124 := k124.below b144
    replace k139 := k139.below b144
    replace hB := below_then hB b144
    replace hL := LL.below hL b144
    refine Ge (dx_cv rfl Try.func26 rfl rfl rfl (jWithout_v n p [name, ⟨#[98]⟩] _ W142 _ hL (show RdT (n + 1) (W127.heap.size :: W113.heap.size :: W16.heap.size :: W2.heap.size :: w.heap.size :: L) W142 p from ⟨hnp, hip, hcp⟩) (RdF.less (L' := []) hg146 (fun x hx => by cases hx)) hzp (by simp))) rfl rfl ?_
    rintro _ W148 ⟨⟨c, rfl, hce, hct⟩, b147⟩
    replace hnp := hnp.below b147
    replace hip := hip.below b147
    replace hcp := hcp.below b147
    replace hna := hna.below b147
    replace hia := hia.below b147
    replace hca := hca.below b147
    replace hnb := hnb.below b147
    replace hib := hib.below b147
    replace hcb := hcb.below b147
    replace k3 := k3.below b147
    replace k124 := k124.below b147
    replace k139 := k139.below b147
    replace hB := below_then hB b147
    replace hL := LL.below hL b147
    obtain ⟨hnc, hic, hcc⟩ := hct
    replace hcc : RdTs (n) (W127.heap.size :: W113.heap.size :: W16.heap.size :: W2.heap.size :: w.heap.size :: L) W148 c.items := hcc
    refine Ge (dx_alloc rfl ty_zero_26 rfl) rfl rfl ?_
    rintro _ W149 ⟨rfl, k150, b151, z152⟩
    have n153 : w.heap.size ≠ W148.heap.size := Nat.ne_of_lt k3.lt
    have n156 : W113.heap.size ≠ W148.heap.size := Nat.ne_of_lt k124.lt
    have n157 : W127.heap.size ≠ W148.heap.size := Nat.ne_of_lt k139.lt
    have l158 := hB.size
    replace hnp := hnp.more b151 (Nat.le_refl _)
    replace hip := hip.more b151 (Nat.le_refl _)
    replace hcp := hcp.more b151 (Nat.le_refl _)
    replace hna := hna.more b151 (Nat.le_refl _)
    replace hia := hia.more b151 (Nat.le_refl _)
    replace hca := hca.more b151 (Nat.le_refl _)
    replace hnb := hnb.more b151 (Nat.le_refl _)
    replace hib := hib.more b151 (Nat.le_refl _)
    replace hcb := hcb.more b151 (Nat.le_refl _)
    replace hnc := hnc.more b151 (Nat.le_refl _)
    replace hic := hic.more b151 (Nat.le_refl _)
    replace hcc := hcc.more b151 (Nat.le_refl _)
    replace k3 := k3.below b151
    replace k124 := k124.below b151
    replace k139 := k139.below b151
    replace hB := below_then hB b151
    replace hL := LL.more hL z152
    refine WL.do (dx_store (cs' := [.int .i64 c.kind, .int .i64 c.num, .string c.text, c.nv, c.iv]) (vs := [.int .i64 c.kind, .int .i64 c.num, .string c.text, c.nv, c.iv]) rfl ty_size_26_5 rfl rfl rfl (oc_cons rfl (oc_cons rfl (oc_cons rfl (oc_cons hnc.one (oc_cons hic.one oc_nil))))) k150 rfl (Nat.le_of_ble_eq_true rfl) rfl) rfl ?_
    rintro _ W159 ⟨k161, o160⟩
    replace k3 := k3.other o160 n153
    replace k124 := k124.other o160 n156
    replace k139 := k139.other o160 n157
    clear k150
    replace hnp := hnp.only o160 (.head _)
    replace hip := hip.only o160 (.head _)
    replace hcp := hcp.only o160 (.head _)
    replace hna := hna.only o160 (.head _)
    replace hia := hia.only o160 (.head _)
    replace hca := hca.only o160 (.head _)
    replace hnb := hnb.only o160 (.head _)
    replace hib := hib.only o160 (.head _)
    replace hcb := hcb.only o160 (.head _)
    replace hnc := hnc.only o160 (.head _)
    replace hic := hic.only o160 (.head _)
    replace hcc := hcc.only o160 (.head _)
    replace hB := o160.below hB l158
    replace hL := LL.only hL o160
    refine Ni (hK140 (Sq fun K162 hK162 => (Rg (Va (dx_loadN rfl ty_agg_26_5 rfl k3.range rfl) rfl rfl (Pu rfl ?_)))))
    refine Ge (dx_lit2 rfl ty_ap_23 rfl rfl rfl rfl) rfl rfl ?_
    rintro u163 W164 ⟨k165, b166, z167⟩
    have hg168 := k165.notin hL (Nat.le_refl _)
    replace hnp := hnp.below b166
    replace hip := hip.below b166
    replace hcp := hcp.below b166
    replace hna := hna.below b166
    replace hia := hia.below b166
    replace hca := hca.below b166
    replace hnb := hnb.below b166
    replace hib := hib.below b166
    replace hcb := hcb.below b166
    replace hnc := hnc.below b166
    replace hic := hic.below b166
    replace hcc := hcc.below b166
    replace k124 := k124.below b166
    replace k139 := k139.below b166
    replace k161 := k161.below b166
    replace hB := below_then hB b166
    replace hL := LL.below hL b166
    refine Ge (dx_cv rfl Try.func27 rfl rfl rfl (refWithout_v n p [name, ⟨#[98]⟩] _ W164 _ hL (show RdT (n + 1) (W148.heap.size :: W127.heap.size :: W113.heap.size :: W16.heap.size :: W2.heap.size :: w.heap.size :: L) W164 p from ⟨hnp, hip, hcp⟩) hg168 hzp (by simp))) rfl rfl ?_
    rintro _ W170 ⟨⟨d, rfl, hde, hdt⟩, b169⟩
    replace hna := hna.below b169
    replace hia := hia.below b169
    replace hca := hca.below b169
    replace hnb := hnb.below b169
    replace hib := hib.below b169
    replace hcb := hcb.below b169
    replace hnc := hnc.below b169
    replace hic := hic.below b169
    replace hcc := hcc.below b169
    replace k124 := k124.below b169
    replace k139 := k139.below b169
    replace k161 := k161.below b169
    replace hB := below_then hB b169
    replace hL := LL.below hL b169
    obtain ⟨hnd, hid, hcd⟩ := hdt
    replace hcd : RdTs (n) (W148.heap.size :: W127.heap.size :: W113.heap.size :: W16.heap.size :: W2.heap.size :: w.heap.size :: L) W170 d.items := hcd
    refine Ge (dx_alloc rfl ty_zero_26 rfl) rfl rfl ?_
    rintro _ W171 ⟨rfl, k172, b173, z174⟩
    have n178 : W113.heap.size ≠ W170.heap.size := Nat.ne_of_lt k124.lt
    have n179 : W127.heap.size ≠ W170.heap.size := Nat.ne_of_lt k139.lt
    have n180 : W148.heap.size ≠ W170.heap.size := Nat.ne_of_lt k161.lt
    have l181 := hB.size
    replace hna := hna.more b173 (Nat.le_refl _)
    replace hia := hia.more b173 (Nat.le_refl _)
    replace hca := hca.more b173 (Nat.le_refl _)
    replace hnb := hnb.more b173 (Nat.le_refl _)
    replace hib := hib.more b173 (Nat.le_refl _)
    replace hcb := hcb.more b173 (Nat.le_refl _)
    replace hnc := hnc.more b173 (Nat.le_refl _)
    replace hic := hic.more b173 (Nat.le_refl _)
    replace hcc := hcc.more b173 (Nat.le_refl _)
    replace hnd := hnd.more b173 (Nat.le_refl _)
    replace hid := hid.more b173 (Nat.le_refl _)
    replace hcd := hcd.more b173 (Nat.le_refl _)
    replace k124 := k124.below b173
    replace k139 := k139.below b173
    replace k161 := k161.below b173
    replace hB := below_then hB b173
    replace hL := LL.more hL z174
    refine WL.do (dx_store (cs' := [.int .i64 d.kind, .int .i64 d.num, .string d.text, d.nv, d.iv]) (vs := [.int .i64 d.kind, .int .i64 d.num, .string d.text, d.nv, d.iv]) rfl ty_size_26_5 rfl rfl rfl (oc_cons rfl (oc_cons rfl (oc_cons rfl (oc_cons hnd.one (oc_cons hid.one oc_nil))))) k172 rfl (Nat.le_of_ble_eq_true rfl) rfl) rfl ?_
    rintro _ W182 ⟨k184, o183⟩
    replace k124 := k124.other o183 n178
    replace k139 := k139.other o183 n179
    replace k161 := k161.other o183 n180
    clear k172
    replace hna := hna.only o183 (.head _)
    replace hia := hia.only o183 (.head _)
    replace hca := hca.only o183 (.head _)
    replace hnb := hnb.only o183 (.head _)
    replace hib := hib.only o183 (.head _)
    replace hcb := hcb.only o183 (.head _)
    replace hnc := hnc.only o183 (.head _)
    replace hic := hic.only o183 (.head _)
    replace hcc := hcc.only o183 (.head _)
    replace hnd := hnd.only o183 (.head _)
    replace hid := hid.only o183 (.head _)
    replace hcd := hcd.only o183 (.head _)
    replace hB := o183.below hB l181
    replace hL := LL.only hL o183
    refine Ni (hK162 (Sq fun K185 hK185 => (Rg (Va (dx_loadN rfl ty_agg_26_5 rfl k124.range rfl) rfl rfl (Va (dx_loadN rfl ty_agg_26_5 rfl k139.range rfl) rfl rfl ?_)))))
    refine Ge (dx_cv rfl Try.func14 rfl rfl rfl (alikeE_v (n + 1) a b W182 _ hL (show RdT (n + 1 + 1) (W170.heap.size :: W148.heap.size :: W127.heap.size :: W113.heap.size :: W16.heap.size :: W2.heap.size :: w.heap.size :: L) W182 a from ⟨hna, hia, hca⟩) (show RdT (n + 1 + 1) (W170.heap.size :: W148.heap.size :: W127.heap.size :: W113.heap.size :: W16.heap.size :: W2.heap.size :: w.heap.size :: L) W182 b from ⟨hnb, hib, hcb⟩) (hae.trans hbe.symm))) rfl rfl ?_
    rintro _ W187 ⟨rfl, b186⟩
    replace hnc := hnc.below b186
    replace hic := hic.below b186
    replace hcc := hcc.below b186
    replace hnd := hnd.below b186
    replace hid := hid.below b186
    replace hcd := hcd.below b186
    replace k161 := k161.below b186
    replace k184 := k184.below b186
    replace hB := below_then hB b186
    replace hL := LL.below hL b186
    refine Pu rfl (Pu rfl (Pu rfl (Va (dx_eql rfl rfl rfl) rfl rfl (Pu rfl (Pu rfl (Va (dx_loadN rfl ty_agg_26_5 rfl k161.range rfl) rfl rfl (Va (dx_loadN rfl ty_agg_26_5 rfl k184.range rfl) rfl rfl ?_)))))))
    refine Ge (dx_cv rfl Try.func14 rfl rfl rfl (alikeE_v (n) c d W187 _ hL (show RdT (n + 1) (W170.heap.size :: W148.heap.size :: W127.heap.size :: W113.heap.size :: W16.heap.size :: W2.heap.size :: w.heap.size :: L) W187 c from ⟨hnc, hic, hcc⟩) (show RdT (n + 1) (W170.heap.size :: W148.heap.size :: W127.heap.size :: W113.heap.size :: W16.heap.size :: W2.heap.size :: w.heap.size :: L) W187 d from ⟨hnd, hid, hcd⟩) (hce.trans hde.symm))) rfl rfl ?_
    rintro _ W189 ⟨rfl, b188⟩
    replace hB := below_then hB b188
    refine Pu rfl (Pu rfl (Ni (hK185 ?_)))
    exact WC.ret fun a_ ha_ => hQ (cv_ret1 rfl (.tmp rfl) rfl hB ha_)

end Go.Proofs.Ytpinidlfcifeeaa

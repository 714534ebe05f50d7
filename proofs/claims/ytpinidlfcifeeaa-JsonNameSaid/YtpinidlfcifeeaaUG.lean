/- The law of one name. -/
import Derived.Test.YtpinidlfcifeeaaUF
namespace Go.Proofs.Ytpinidlfcifeeaa
open Go.RowKit
set_option linter.unusedVariables false
set_option linter.unusedSimpArgs false
set_option maxRecDepth 8000

set_option maxHeartbeats 2000000 in
theorem JsonName_v (n : Nat) (p q : Tr) (a_ b_ : ByteArray) (w : World) (L : List Nat) (hL : LL L w) (htp : RdT (n + 1) L w p) (htq : RdT (n + 1) L w q) : CV Try.prog 7 [.agg #[.int .i64 p.kind, .int .i64 p.num, .string p.text, p.nv, p.iv], .agg #[.int .i64 q.kind, .int .i64 q.num, .string q.text, q.nv, q.iv], .agg #[.string a_, .string b_]] w fun v W => v = .bool true := by
 refine cv_enter (N := 121) (f := [(0, .agg #[.int .i64 p.kind, .int .i64 p.num, .string p.text, p.nv, p.iv]), (1, .agg #[.int .i64 q.kind, .int .i64 q.num, .string q.text, q.nv, q.iv]), (2, .agg #[.string a_, .string b_])]) Try.func7 rfl rfl rfl rfl fun Q hQ hE => ?_
 have hB := Below.refl w.heap.size w
 refine WC.seq fun K1 hK1 => ?_
 obtain ⟨hnp, hip, hcp⟩ := htp
 replace hcp : RdTs n (L) w p.items := hcp
 obtain ⟨hnq, hiq, hcq⟩ := htq
 replace hcq : RdTs n (L) w q.items := hcq
 refine WC.region ?_
 refine WL.get (dx_box rfl rfl rfl) rfl rfl ?_
 rintro _ W2 ⟨rfl, k3, b4, z5⟩
 have l6 := hB.size
 replace hnp := hnp.more b4 (Nat.le_refl _)
 replace hip := hip.more b4 (Nat.le_refl _)
 replace hcp := hcp.more b4 (Nat.le_refl _)
 replace hnq := hnq.more b4 (Nat.le_refl _)
 replace hiq := hiq.more b4 (Nat.le_refl _)
 replace hcq := hcq.more b4 (Nat.le_refl _)
 replace hB := below_then hB b4
 replace hL := LL.more hL z5
 refine WL.get (dx_box rfl rfl rfl) rfl rfl ?_
 rintro _ W7 ⟨rfl, k8, b9, z10⟩
 have l12 := hB.size
 replace hnp := hnp.more b9 (Nat.le_refl _)
 replace hip := hip.more b9 (Nat.le_refl _)
 replace hcp := hcp.more b9 (Nat.le_refl _)
 replace hnq := hnq.more b9 (Nat.le_refl _)
 replace hiq := hiq.more b9 (Nat.le_refl _)
 replace hcq := hcq.more b9 (Nat.le_refl _)
 replace k3 := k3.below b9
 replace hB := below_then hB b9
 replace hL := LL.more hL z10
 refine WL.get (dx_box rfl rfl rfl) rfl rfl ?_
 rintro _ W13 ⟨rfl, k14, b15, z16⟩
 have l19 := hB.size
 replace hnp := hnp.more b15 (Nat.le_refl _)
 replace hip := hip.more b15 (Nat.le_refl _)
 replace hcp := hcp.more b15 (Nat.le_refl _)
 replace hnq := hnq.more b15 (Nat.le_refl _)
 replace hiq := hiq.more b15 (Nat.le_refl _)
 replace hcq := hcq.more b15 (Nat.le_refl _)
 replace k3 := k3.below b15
 replace k8 := k8.below b15
 replace hB := below_then hB b15
 replace hL := LL.more hL z16
 refine WL.val (dx_assign rfl rfl) rfl rfl ?_
 refine WL.nil ?_
 refine hK1 ?_
 refine WC.seq fun K20 hK20 => ?_
 refine WC.seq fun K21 hK21 => ?_
 refine WC.region ?_
 refine WL.get (dx_cv rfl Try.func11 rfl rfl rfl (alive_v W13 _ hL)) rfl rfl ?_
 rintro _ W23 ⟨rfl, b22⟩
 replace hnp := hnp.below b22
 replace hip := hip.below b22
 replace hcp := hcp.below b22
 replace hnq := hnq.below b22
 replace hiq := hiq.below b22
 replace hcq := hcq.below b22
 replace k3 := k3.below b22
 replace k8 := k8.below b22
 replace k14 := k14.below b22
 replace hB := below_then hB b22
 replace hL := LL.below hL b22
 refine WL.val (dx_not rfl rfl) rfl rfl ?_
 refine WL.nil ?_
 refine hK21 ?_
 refine WC.condF rfl ?_
 refine WC.skip ?_
 refine hK20 ?_
 refine WC.seq fun K24 hK24 => ?_
 refine WC.seq fun K25 hK25 => ?_
 refine WC.region ?_
 refine WL.val (dx_loadN rfl ty_agg_26_5 rfl k3.range rfl) rfl rfl ?_
 refine WL.val (dx_loadN rfl ty_agg_26_5 rfl k8.range rfl) rfl rfl ?_
 refine WL.get (dx_lit25 rfl ty_ap_24 rfl rfl) rfl rfl ?_
 rintro u26 W27 ⟨k28, b29, z30⟩
 have l34 := hB.size
 replace hnp := hnp.more b29 (Nat.le_refl _)
 replace hip := hip.more b29 (Nat.le_refl _)
 replace hcp := hcp.more b29 (Nat.le_refl _)
 replace hnq := hnq.more b29 (Nat.le_refl _)
 replace hiq := hiq.more b29 (Nat.le_refl _)
 replace hcq := hcq.more b29 (Nat.le_refl _)
 replace k3 := k3.below b29
 replace k8 := k8.below b29
 replace k14 := k14.below b29
 replace hB := below_then hB b29
 replace hL := LL.more hL z30
 refine WL.get (dx_cv rfl Try.func16 rfl rfl rfl (great_v n [p, q] _ W27 [] (LL.nil _) (k28.rd (L := []) (by simp)) (fun c hc => by simp only [List.mem_cons, List.not_mem_nil, or_false] at hc; rcases hc with h_ | h_; rw [h_]; exact ((show RdT (n + 1) (W23.heap.size :: W7.heap.size :: W2.heap.size :: w.heap.size :: L) W27 p from ⟨hnp, hip, hcp⟩).less (fun x hx => by cases hx)); rw [h_]; exact ((show RdT (n + 1) (W23.heap.size :: W7.heap.size :: W2.heap.size :: w.heap.size :: L) W27 q from ⟨hnq, hiq, hcq⟩).less (fun x hx => by cases hx))) (by simp))) rfl rfl ?_
 rintro _ W36 ⟨⟨gb, rfl, hgs⟩, b35⟩
 replace hnp := hnp.below b35
 replace hip := hip.below b35
 replace hcp := hcp.below b35
 replace hnq := hnq.below b35
 replace hiq := hiq.below b35
 replace hcq := hcq.below b35
 replace k3 := k3.below b35
 replace k8 := k8.below b35
 replace k14 := k14.below b35
 replace k28 := k28.below b35
 replace hB := below_then hB b35
 replace hL := LL.below hL b35
 refine WL.val (dx_move rfl rfl) rfl rfl ?_
 refine WL.split 24 rfl (fun g37 => ?_) (fun g37 => ?_)
 ·
  refine WL.off rfl rfl rfl ?_
  refine WL.off rfl rfl rfl ?_
  refine WL.off rfl rfl rfl ?_
  refine WL.off rfl rfl rfl ?_
  refine WL.val (dx_pick rfl rfl rfl) rfl rfl ?_
  refine WL.val (dx_move rfl rfl) rfl rfl ?_
  refine WL.off rfl rfl rfl ?_
  refine WL.off rfl rfl rfl ?_
  refine WL.off rfl rfl rfl ?_
  refine WL.off rfl rfl rfl ?_
  refine WL.val (dx_pick rfl rfl rfl) rfl rfl ?_
  refine WL.nil ?_
  refine hK25 ?_
  refine WC.condT rfl ?_
  refine WC.seq fun K38 hK38 => ?_
  refine WC.region ?_
  refine WL.val (dx_assign rfl rfl) rfl rfl ?_
  refine WL.nil ?_
  refine hK38 ?_
  refine WC.ret fun a_ ha_ => ?_
  exact hQ (cv_ret1 rfl (.tmp rfl) rfl hB ha_)
 ·
  replace g37 := bvar_f g37
  refine WL.val (dx_idxA (o1 := 0) rfl Try.underlying46 ty_size_9_1 rfl rfl (by omega) rfl) rfl rfl ?_
  refine WL.val (dx_load rfl ty_one_9 rfl (k14.cell (k := 0) rfl)) rfl rfl ?_
  refine WL.val (dx_lenT rfl Try.underlying9 rfl) rfl rfl ?_
  refine WL.val (dx_gtr rfl rfl rfl) rfl rfl ?_
  refine WL.val (dx_pick rfl rfl rfl) rfl rfl ?_
  refine WL.val (dx_move rfl rfl) rfl rfl ?_
  refine WL.split 30 rfl (fun g39 => ?_) (fun g39 => ?_)
  ·
   replace g39 := of_decide_eq_true g39
   refine WL.off rfl rfl rfl ?_
   refine WL.off rfl rfl rfl ?_
   refine WL.off rfl rfl rfl ?_
   refine WL.off rfl rfl rfl ?_
   refine WL.val (dx_pick rfl rfl rfl) rfl rfl ?_
   refine WL.nil ?_
   refine hK25 ?_
   refine WC.condT rfl ?_
   refine WC.seq fun K40 hK40 => ?_
   refine WC.region ?_
   refine WL.val (dx_assign rfl rfl) rfl rfl ?_
   refine WL.nil ?_
   refine hK40 ?_
   refine WC.ret fun a_ ha_ => ?_
   exact hQ (cv_ret1 rfl (.tmp rfl) rfl hB ha_)
  ·
   replace g39 := of_decide_eq_false g39
   refine WL.val (dx_idxA (o1 := 1) rfl Try.underlying46 ty_size_9_1 rfl rfl (by omega) rfl) rfl rfl ?_
   refine WL.val (dx_load rfl ty_one_9 rfl (k14.cell (k := 1) rfl)) rfl rfl ?_
   refine WL.val (dx_lenT rfl Try.underlying9 rfl) rfl rfl ?_
   refine WL.val (dx_gtr rfl rfl rfl) rfl rfl ?_
   refine WL.val (dx_pick rfl rfl rfl) rfl rfl ?_
   refine WL.nil ?_
   refine hK25 ?_
   refine WC.cond rfl (fun c41 => ?_) (fun c41 => ?_)
   ·
    replace c41 := of_decide_eq_true c41
    refine WC.seq fun K42 hK42 => ?_
    refine WC.region ?_
    refine WL.val (dx_assign rfl rfl) rfl rfl ?_
    refine WL.nil ?_
    refine hK42 ?_
    refine WC.ret fun a_ ha_ => ?_
    exact hQ (cv_ret1 rfl (.tmp rfl) rfl hB ha_)
   ·
    replace c41 := of_decide_eq_false c41
    refine WC.skip ?_
    refine hK24 ?_
    refine WC.seq fun K43 hK43 => ?_
    have hsp := hgs (by first | assumption | simp_all) p (.head _)
    have hzp := hsp.le (show 1000 ≤ 1000000 by omega)
    have hsq := hgs (by first | assumption | simp_all) q (.tail _ (.head _))
    have hzq := hsq.le (show 1000 ≤ 1000000 by omega)
    have hsa : a_.size ≤ 1000 := by omega
    rcases hw : withJ p.er a_ q.er with c | j
    ·
     have hcn := withJ_ne hw
     refine WC.region ?_
     refine WL.val (dx_loadN rfl ty_agg_26_5 rfl k3.range rfl) rfl rfl ?_
     refine WL.val (dx_idxA (o1 := 0) rfl Try.underlying46 ty_size_9_1 rfl rfl (by omega) rfl) rfl rfl ?_
     refine WL.val (dx_load rfl ty_one_9 rfl (k14.cell (k := 0) rfl)) rfl rfl ?_
     refine WL.val (dx_loadN rfl ty_agg_26_5 rfl k8.range rfl) rfl rfl ?_
     refine WL.get (dx_cv rfl Try.func24 rfl rfl rfl (withX_v n p q a_ c W36 _ hL (show RdT (n + 1) (W23.heap.size :: W7.heap.size :: W2.heap.size :: w.heap.size :: L) W36 p from ⟨hnp, hip, hcp⟩) (show RdT (n + 1) (W23.heap.size :: W7.heap.size :: W2.heap.size :: w.heap.size :: L) W36 q from ⟨hnq, hiq, hcq⟩) hzp hzq (by omega) hw)) rfl rfl ?_
     rintro _ W45 ⟨rfl, b44⟩
     replace hnp := hnp.below b44
     replace hip := hip.below b44
     replace hcp := hcp.below b44
     replace hnq := hnq.below b44
     replace hiq := hiq.below b44
     replace hcq := hcq.below b44
     replace k3 := k3.below b44
     replace k8 := k8.below b44
     replace k14 := k14.below b44
     replace k28 := k28.below b44
     replace hB := below_then hB b44
     replace hL := LL.below hL b44
     refine WL.val (dx_move rfl rfl) rfl rfl ?_
     refine WL.val (dx_extract rfl rfl rfl) rfl rfl ?_
     refine WL.val (dx_extract rfl rfl rfl) rfl rfl ?_
     refine WL.get (dx_alloc rfl ty_zero_26 rfl) rfl rfl ?_
     rintro _ W46 ⟨rfl, k47, b48, z49⟩
     have n50 : w.heap.size ≠ W45.heap.size := Nat.ne_of_lt k3.lt
     have n51 : W2.heap.size ≠ W45.heap.size := Nat.ne_of_lt k8.lt
     have n52 : W7.heap.size ≠ W45.heap.size := Nat.ne_of_lt k14.lt
     have n53 : W23.heap.size ≠ W45.heap.size := Nat.ne_of_lt k28.lt
     have l54 := hB.size
     replace hnp := hnp.more b48 (Nat.le_refl _)
     replace hip := hip.more b48 (Nat.le_refl _)
     replace hcp := hcp.more b48 (Nat.le_refl _)
     replace hnq := hnq.more b48 (Nat.le_refl _)
     replace hiq := hiq.more b48 (Nat.le_refl _)
     replace hcq := hcq.more b48 (Nat.le_refl _)
     replace k3 := k3.below b48
     replace k8 := k8.below b48
     replace k14 := k14.below b48
     replace k28 := k28.below b48
     replace hB := below_then hB b48
     replace hL := LL.more hL z49
     refine WL.do (dx_store (cs' := [.int .i64 0, .int .i64 0, .string ⟨#[]⟩, .slice none 0 0, .slice none 0 0]) (vs := [.int .i64 0, .int .i64 0, .string ⟨#[]⟩, .slice none 0 0, .slice none 0 0]) rfl ty_size_26_5 rfl rfl rfl (oc_cons rfl (oc_cons rfl (oc_cons rfl (oc_cons rfl (oc_cons rfl oc_nil))))) k47 rfl (Nat.le_of_ble_eq_true rfl) rfl) rfl ?_
     rintro _ W55 ⟨k57, o56⟩
     replace k3 := k3.other o56 n50
     replace k8 := k8.other o56 n51
     replace k14 := k14.other o56 n52
     replace k28 := k28.other o56 n53
     clear k47
     replace hnp := hnp.only o56 (.head _)
     replace hip := hip.only o56 (.head _)
     replace hcp := hcp.only o56 (.head _)
     replace hnq := hnq.only o56 (.head _)
     replace hiq := hiq.only o56 (.head _)
     replace hcq := hcq.only o56 (.head _)
     replace hB := o56.below hB l54
     replace hL := LL.only hL o56
     refine WL.val (dx_assign rfl rfl) rfl rfl ?_
     refine WL.nil ?_
     refine hK43 ?_
     refine WC.seq fun K58 hK58 => ?_
     refine WC.seq fun K59 hK59 => ?_
     refine WC.region ?_
     refine WL.val (dx_move rfl rfl) rfl rfl ?_
     refine WL.val (dv_NT (dx_neq rfl rfl rfl) hcn) rfl rfl ?_
     refine WL.nil ?_
     refine hK59 ?_
     refine WC.condT rfl ?_
     refine WC.seq fun K60 hK60 => ?_
     refine WC.region ?_
     refine WL.val (dx_fld (o1 := 0) rfl ty_fld_26_0_0 rfl rfl) rfl rfl ?_
     refine WL.val (dx_load rfl ty_one_3 rfl (k57.cell (k := 0) rfl)) rfl rfl ?_
     refine WL.val (dx_eql rfl rfl rfl) rfl rfl ?_
     refine WL.val (dx_move rfl rfl) rfl rfl ?_
     refine WL.val (dx_fld (o1 := 4) rfl ty_fld_26_4_4 rfl rfl) rfl rfl ?_
     refine WL.val (dx_load rfl ty_one_24 rfl (k57.cell (k := 4) rfl)) rfl rfl ?_
     refine WL.val (dv_e (dx_len rfl Try.underlying24 rfl) (show Value.int .i64 ((0 : Nat) : Int) = .int .i64 0 from rfl)) rfl rfl ?_
     refine WL.val (dx_eql rfl rfl rfl) rfl rfl ?_
     refine WL.val (dx_pick rfl rfl rfl) rfl rfl ?_
     refine WL.val (dx_assign rfl rfl) rfl rfl ?_
     refine WL.nil ?_
     refine hK60 ?_
     refine WC.ret fun a_ ha_ => ?_
     exact hQ (cv_ret1 rfl (.tmp rfl) rfl hB ha_)
    ·
     obtain ⟨hk6, hr1, hr2, hu1, hd1, rfl⟩ := withJ_inv hw
     obtain ⟨_, _, hln, hri, _, _⟩ := obj_node hk6 hr1
     replace hri := rises_of_J hri
     refine WC.region ?_
     refine WL.val (dx_loadN rfl ty_agg_26_5 rfl k3.range rfl) rfl rfl ?_
     refine WL.val (dx_idxA (o1 := 0) rfl Try.underlying46 ty_size_9_1 rfl rfl (by omega) rfl) rfl rfl ?_
     refine WL.val (dx_load rfl ty_one_9 rfl (k14.cell (k := 0) rfl)) rfl rfl ?_
     refine WL.val (dx_loadN rfl ty_agg_26_5 rfl k8.range rfl) rfl rfl ?_
     refine WL.get (dx_cv rfl Try.func24 rfl rfl rfl (withK_v n p q a_ _ W36 _ hL (show RdT (n + 1) (W23.heap.size :: W7.heap.size :: W2.heap.size :: w.heap.size :: L) W36 p from ⟨hnp, hip, hcp⟩) (show RdT (n + 1) (W23.heap.size :: W7.heap.size :: W2.heap.size :: w.heap.size :: L) W36 q from ⟨hnq, hiq, hcq⟩) hzp hzq (by omega) hw)) rfl rfl ?_
     rintro _ W62 ⟨⟨t, rfl, hte, htt⟩, b61⟩
     replace hnp := hnp.below b61
     replace hip := hip.below b61
     replace hcp := hcp.below b61
     replace hnq := hnq.below b61
     replace hiq := hiq.below b61
     replace hcq := hcq.below b61
     replace k3 := k3.below b61
     replace k8 := k8.below b61
     replace k14 := k14.below b61
     replace k28 := k28.below b61
     replace hB := below_then hB b61
     replace hL := LL.below hL b61
     obtain ⟨hnt, hit, hct⟩ := htt
     replace hct : RdTs (n + 1) (W23.heap.size :: W7.heap.size :: W2.heap.size :: w.heap.size :: L) W62 t.items := hct
     have hsj := put_sz (szT_J.1 hsp) (szT_J.1 hsq) hsa
     have hzt : SzT 1000000 (n + 1 + 1) t := szT_J.2 (by rw [hte]; exact hsj.le (by omega))
     have hrt := put_right hk6 hr1 hr2 hu1 hd1
     rw [← hte] at hrt
     have hkt : t.er.kind = 6 := by rw [hte]; exact put_kind
     refine WL.val (dx_move rfl rfl) rfl rfl ?_
     refine WL.val (dx_extract rfl rfl rfl) rfl rfl ?_
     refine WL.val (dx_extract rfl rfl rfl) rfl rfl ?_
     refine WL.get (dx_alloc rfl ty_zero_26 rfl) rfl rfl ?_
     rintro _ W63 ⟨rfl, k64, b65, z66⟩
     have n67 : w.heap.size ≠ W62.heap.size := Nat.ne_of_lt k3.lt
     have n68 : W2.heap.size ≠ W62.heap.size := Nat.ne_of_lt k8.lt
     have n69 : W7.heap.size ≠ W62.heap.size := Nat.ne_of_lt k14.lt
     have n70 : W23.heap.size ≠ W62.heap.size := Nat.ne_of_lt k28.lt
     have l71 := hB.size
     replace hnp := hnp.more b65 (Nat.le_refl _)
     replace hip := hip.more b65 (Nat.le_refl _)
     replace hcp := hcp.more b65 (Nat.le_refl _)
     replace hnq := hnq.more b65 (Nat.le_refl _)
     replace hiq := hiq.more b65 (Nat.le_refl _)
     replace hcq := hcq.more b65 (Nat.le_refl _)
     replace hnt := hnt.more b65 (Nat.le_refl _)
     replace hit := hit.more b65 (Nat.le_refl _)
     replace hct := hct.more b65 (Nat.le_refl _)
     replace k3 := k3.below b65
     replace k8 := k8.below b65
     replace k14 := k14.below b65
     replace k28 := k28.below b65
     replace hB := below_then hB b65
     replace hL := LL.more hL z66
     refine WL.do (dx_store (cs' := [.int .i64 t.kind, .int .i64 t.num, .string t.text, t.nv, t.iv]) (vs := [.int .i64 t.kind, .int .i64 t.num, .string t.text, t.nv, t.iv]) rfl ty_size_26_5 rfl rfl rfl (oc_cons rfl (oc_cons rfl (oc_cons rfl (oc_cons hnt.one (oc_cons hit.one oc_nil))))) k64 rfl (Nat.le_of_ble_eq_true rfl) rfl) rfl ?_
     rintro _ W72 ⟨k74, o73⟩
     replace k3 := k3.other o73 n67
     replace k8 := k8.other o73 n68
     replace k14 := k14.other o73 n69
     replace k28 := k28.other o73 n70
     clear k64
     replace hnp := hnp.only o73 (.head _)
     replace hip := hip.only o73 (.head _)
     replace hcp := hcp.only o73 (.head _)
     replace hnq := hnq.only o73 (.head _)
     replace hiq := hiq.only o73 (.head _)
     replace hcq := hcq.only o73 (.head _)
     replace hnt := hnt.only o73 (.head _)
     replace hit := hit.only o73 (.head _)
     replace hct := hct.only o73 (.head _)
     replace hB := o73.below hB l71
     replace hL := LL.only hL o73
     refine WL.val (dx_assign rfl rfl) rfl rfl ?_
     refine WL.nil ?_
     refine hK43 ?_
     refine WC.seq fun K75 hK75 => ?_
     refine WC.seq fun K76 hK76 => ?_
     refine WC.region ?_
     refine WL.val (dx_move rfl rfl) rfl rfl ?_
     refine WL.val (dx_neq rfl rfl rfl) rfl rfl ?_
     refine WL.nil ?_
     refine hK76 ?_
     refine WC.condF rfl ?_
     refine WC.skip ?_
     refine hK75 ?_
     refine WC.seq fun K77 hK77 => ?_
     refine WC.region ?_
     refine WL.val (dx_loadN rfl ty_agg_26_5 rfl k74.range rfl) rfl rfl ?_
     refine WL.val (dx_idxA (o1 := 0) rfl Try.underlying46 ty_size_9_1 rfl rfl (by omega) rfl) rfl rfl ?_
     refine WL.val (dx_load rfl ty_one_9 rfl (k14.cell (k := 0) rfl)) rfl rfl ?_
     refine WL.get (dx_cv rfl Try.func17 rfl rfl rfl (getE_v (n + 1) t a_ _ true W72 _ hL (show RdT (n + 1 + 1) (W62.heap.size :: W23.heap.size :: W7.heap.size :: W2.heap.size :: w.heap.size :: L) W72 t from ⟨hnt, hit, hct⟩) (by rw [hte]; exact putJ_get hri hln))) rfl rfl ?_
     rintro _ W79 ⟨⟨y, rfl, hye, hyt⟩, b78⟩
     replace hnp := hnp.below b78
     replace hip := hip.below b78
     replace hcp := hcp.below b78
     replace hnq := hnq.below b78
     replace hiq := hiq.below b78
     replace hcq := hcq.below b78
     replace hnt := hnt.below b78
     replace hit := hit.below b78
     replace hct := hct.below b78
     replace k3 := k3.below b78
     replace k8 := k8.below b78
     replace k14 := k14.below b78
     replace k28 := k28.below b78
     replace k74 := k74.below b78
     replace hB := below_then hB b78
     replace hL := LL.below hL b78
     obtain ⟨hny, hiy, hcy⟩ := hyt
     replace hcy : RdTs (n + 1) (W62.heap.size :: W23.heap.size :: W7.heap.size :: W2.heap.size :: w.heap.size :: L) W79 y.items := hcy
     refine WL.val (dx_move rfl rfl) rfl rfl ?_
     refine WL.val (dx_extract rfl rfl rfl) rfl rfl ?_
     refine WL.val (dx_extract rfl rfl rfl) rfl rfl ?_
     refine WL.get (dx_alloc rfl ty_zero_26 rfl) rfl rfl ?_
     rintro _ W80 ⟨rfl, k81, b82, z83⟩
     have n84 : w.heap.size ≠ W79.heap.size := Nat.ne_of_lt k3.lt
     have n85 : W2.heap.size ≠ W79.heap.size := Nat.ne_of_lt k8.lt
     have n86 : W7.heap.size ≠ W79.heap.size := Nat.ne_of_lt k14.lt
     have n87 : W23.heap.size ≠ W79.heap.size := Nat.ne_of_lt k28.lt
     have n88 : W62.heap.size ≠ W79.heap.size := Nat.ne_of_lt k74.lt
     have l89 := hB.size
     replace hnp := hnp.more b82 (Nat.le_refl _)
     replace hip := hip.more b82 (Nat.le_refl _)
     replace hcp := hcp.more b82 (Nat.le_refl _)
     replace hnq := hnq.more b82 (Nat.le_refl _)
     replace hiq := hiq.more b82 (Nat.le_refl _)
     replace hcq := hcq.more b82 (Nat.le_refl _)
     replace hnt := hnt.more b82 (Nat.le_refl _)
     replace hit := hit.more b82 (Nat.le_refl _)
     replace hct := hct.more b82 (Nat.le_refl _)
     replace hny := hny.more b82 (Nat.le_refl _)
     replace hiy := hiy.more b82 (Nat.le_refl _)
     replace hcy := hcy.more b82 (Nat.le_refl _)
     replace k3 := k3.below b82
     replace k8 := k8.below b82
     replace k14 := k14.below b82
     replace k28 := k28.below b82
     replace k74 := k74.below b82
     replace hB := below_then hB b82
     replace hL := LL.more hL z83
     refine WL.do (dx_store (cs' := [.int .i64 y.kind, .int .i64 y.num, .string y.text, y.nv, y.iv]) (vs := [.int .i64 y.kind, .int .i64 y.num, .string y.text, y.nv, y.iv]) rfl ty_size_26_5 rfl rfl rfl (oc_cons rfl (oc_cons rfl (oc_cons rfl (oc_cons hny.one (oc_cons hiy.one oc_nil))))) k81 rfl (Nat.le_of_ble_eq_true rfl) rfl) rfl ?_
     rintro _ W90 ⟨k92, o91⟩
     replace k3 := k3.other o91 n84
     replace k8 := k8.other o91 n85
     replace k14 := k14.other o91 n86
     replace k28 := k28.other o91 n87
     replace k74 := k74.other o91 n88
     clear k81
     replace hnp := hnp.only o91 (.head _)
     replace hip := hip.only o91 (.head _)
     replace hcp := hcp.only o91 (.head _)
     replace hnq := hnq.only o91 (.head _)
     replace hiq := hiq.only o91 (.head _)
     replace hcq := hcq.only o91 (.head _)
     replace hnt := hnt.only o91 (.head _)
     replace hit := hit.only o91 (.head _)
     replace hct := hct.only o91 (.head _)
     replace hny := hny.only o91 (.head _)
     replace hiy := hiy.only o91 (.head _)
     replace hcy := hcy.only o91 (.head _)
     replace hB := o91.below hB l89
     replace hL := LL.only hL o91
     refine WL.val (dx_assign rfl rfl) rfl rfl ?_
     refine WL.nil ?_
     refine hK77 ?_
     refine WC.seq fun K93 hK93 => ?_
     refine WC.seq fun K94 hK94 => ?_
     refine WC.region ?_
     refine WL.val (dx_move rfl rfl) rfl rfl ?_
     refine WL.val (dx_not rfl rfl) rfl rfl ?_
     refine WL.val (dx_move rfl rfl) rfl rfl ?_
     refine WL.val (dx_loadN rfl ty_agg_26_5 rfl k8.range rfl) rfl rfl ?_
     refine WL.val (dx_loadN rfl ty_agg_26_5 rfl k92.range rfl) rfl rfl ?_
     refine WL.get (dx_cv rfl Try.func14 rfl rfl rfl (alikeE_v (n + 1) q y W90 _ hL ((show RdT (n + 1) (W79.heap.size :: W62.heap.size :: W23.heap.size :: W7.heap.size :: W2.heap.size :: w.heap.size :: L) W90 q from ⟨hnq, hiq, hcq⟩).up) (show RdT (n + 1 + 1) (W79.heap.size :: W62.heap.size :: W23.heap.size :: W7.heap.size :: W2.heap.size :: w.heap.size :: L) W90 y from ⟨hny, hiy, hcy⟩) (hye.symm))) rfl rfl ?_
     rintro _ W96 ⟨rfl, b95⟩
     replace hnp := hnp.below b95
     replace hip := hip.below b95
     replace hcp := hcp.below b95
     replace hnq := hnq.below b95
     replace hiq := hiq.below b95
     replace hcq := hcq.below b95
     replace hnt := hnt.below b95
     replace hit := hit.below b95
     replace hct := hct.below b95
     replace hny := hny.below b95
     replace hiy := hiy.below b95
     replace hcy := hcy.below b95
     replace k3 := k3.below b95
     replace k8 := k8.below b95
     replace k14 := k14.below b95
     replace k28 := k28.below b95
     replace k74 := k74.below b95
     replace k92 := k92.below b95
     replace hB := below_then hB b95
     replace hL := LL.below hL b95
     refine WL.val (dx_not rfl rfl) rfl rfl ?_
     refine WL.val (dx_pick rfl rfl rfl) rfl rfl ?_
     refine WL.val (dx_move rfl rfl) rfl rfl ?_
     refine WL.val (dx_loadN rfl ty_agg_26_5 rfl k74.range rfl) rfl rfl ?_
     refine WL.get (dx_cv rfl Try.func15 rfl rfl rfl (rightE_v (n + 1) t true W96 _ hL (show RdT (n + 1 + 1) (W79.heap.size :: W62.heap.size :: W23.heap.size :: W7.heap.size :: W2.heap.size :: w.heap.size :: L) W96 t from ⟨hnt, hit, hct⟩) hzt hrt)) rfl rfl ?_
     rintro _ W98 ⟨rfl, b97⟩
     replace hnp := hnp.below b97
     replace hip := hip.below b97
     replace hcp := hcp.below b97
     replace hnq := hnq.below b97
     replace hiq := hiq.below b97
     replace hcq := hcq.below b97
     replace hnt := hnt.below b97
     replace hit := hit.below b97
     replace hct := hct.below b97
     replace hny := hny.below b97
     replace hiy := hiy.below b97
     replace hcy := hcy.below b97
     replace k3 := k3.below b97
     replace k8 := k8.below b97
     replace k14 := k14.below b97
     replace k28 := k28.below b97
     replace k74 := k74.below b97
     replace k92 := k92.below b97
     replace hB := below_then hB b97
     replace hL := LL.below hL b97
     refine WL.val (dx_not rfl rfl) rfl rfl ?_
     refine WL.val (dx_pick rfl rfl rfl) rfl rfl ?_
     refine WL.nil ?_
     refine hK94 ?_
     refine WC.condF rfl ?_
     refine WC.skip ?_
     refine hK93 ?_
     refine WC.seq fun K99 hK99 => ?_
     refine WC.seq fun K100 hK100 => ?_
     refine WC.region ?_
     refine WL.val (dx_idxA (o1 := 0) rfl Try.underlying46 ty_size_9_1 rfl rfl (by omega) rfl) rfl rfl ?_
     refine WL.val (dx_load rfl ty_one_9 rfl (k14.cell (k := 0) rfl)) rfl rfl ?_
     refine WL.val (dx_idxA (o1 := 1) rfl Try.underlying46 ty_size_9_1 rfl rfl (by omega) rfl) rfl rfl ?_
     refine WL.val (dx_load rfl ty_one_9 rfl (k14.cell (k := 1) rfl)) rfl rfl ?_
     refine WL.val (dx_neqT rfl rfl rfl) rfl rfl ?_
     refine WL.nil ?_
     refine hK100 ?_
     refine WC.cond rfl (fun c101 => ?_) (fun c101 => ?_)
     ·
      replace c101 := bnot_t c101
      replace c101 := of_decide_eq_false c101
      refine WC.seq fun K102 hK102 => ?_
      obtain ⟨x2, bb, hg2⟩ : ∃ x b, getJ p.er b_ = (x, b) := ⟨_, _, rfl⟩
      have hg3 : getJ t.er b_ = (x2, bb) := by rw [hte, put_other hk6 hri hln (fun e_ => by first | exact absurd e_.symm (by assumption) | exact absurd e_ (by assumption) | simp_all)]; exact hg2
      cases bb
      ·
       refine WC.region ?_
       refine WL.val (dx_loadN rfl ty_agg_26_5 rfl k3.range rfl) rfl rfl ?_
       refine WL.val (dx_idxA (o1 := 1) rfl Try.underlying46 ty_size_9_1 rfl rfl (by omega) rfl) rfl rfl ?_
       refine WL.val (dx_load rfl ty_one_9 rfl (k14.cell (k := 1) rfl)) rfl rfl ?_
       refine WL.get (dx_cv rfl Try.func17 rfl rfl rfl (getE_v (n) p b_ _ false W98 _ hL (show RdT (n + 1) (W79.heap.size :: W62.heap.size :: W23.heap.size :: W7.heap.size :: W2.heap.size :: w.heap.size :: L) W98 p from ⟨hnp, hip, hcp⟩) (hg2))) rfl rfl ?_
       rintro _ W104 ⟨⟨a, rfl, hae, hat⟩, b103⟩
       replace hnp := hnp.below b103
       replace hip := hip.below b103
       replace hcp := hcp.below b103
       replace hnq := hnq.below b103
       replace hiq := hiq.below b103
       replace hcq := hcq.below b103
       replace hnt := hnt.below b103
       replace hit := hit.below b103
       replace hct := hct.below b103
       replace hny := hny.below b103
       replace hiy := hiy.below b103
       replace hcy := hcy.below b103
       replace k3 := k3.below b103
       replace k8 := k8.below b103
       replace k14 := k14.below b103
       replace k28 := k28.below b103
       replace k74 := k74.below b103
       replace k92 := k92.below b103
       replace hB := below_then hB b103
       replace hL := LL.below hL b103
       obtain ⟨hna, hia, hca⟩ := hat
       replace hca : RdTs (n) (W79.heap.size :: W62.heap.size :: W23.heap.size :: W7.heap.size :: W2.heap.size :: w.heap.size :: L) W104 a.items := hca
       refine WL.val (dx_move rfl rfl) rfl rfl ?_
       refine WL.val (dx_extract rfl rfl rfl) rfl rfl ?_
       refine WL.val (dx_extract rfl rfl rfl) rfl rfl ?_
       refine WL.get (dx_alloc rfl ty_zero_26 rfl) rfl rfl ?_
       rintro _ W105 ⟨rfl, k106, b107, z108⟩
       have n109 : w.heap.size ≠ W104.heap.size := Nat.ne_of_lt k3.lt
       have n110 : W2.heap.size ≠ W104.heap.size := Nat.ne_of_lt k8.lt
       have n111 : W7.heap.size ≠ W104.heap.size := Nat.ne_of_lt k14.lt
       have n112 : W23.heap.size ≠ W104.heap.size := Nat.ne_of_lt k28.lt
       have n113 : W62.heap.size ≠ W104.heap.size := Nat.ne_of_lt k74.lt
       have n114 : W79.heap.size ≠ W104.heap.size := Nat.ne_of_lt k92.lt
       have l115 := hB.size
       replace hnp := hnp.more b107 (Nat.le_refl _)
       replace hip := hip.more b107 (Nat.le_refl _)
       replace hcp := hcp.more b107 (Nat.le_refl _)
       replace hnq := hnq.more b107 (Nat.le_refl _)
       replace hiq := hiq.more b107 (Nat.le_refl _)
       replace hcq := hcq.more b107 (Nat.le_refl _)
       replace hnt := hnt.more b107 (Nat.le_refl _)
       replace hit := hit.more b107 (Nat.le_refl _)
       replace hct := hct.more b107 (Nat.le_refl _)
       replace hny := hny.more b107 (Nat.le_refl _)
       replace hiy := hiy.more b107 (Nat.le_refl _)
       replace hcy := hcy.more b107 (Nat.le_refl _)
       replace hna := hna.more b107 (Nat.le_refl _)
       replace hia := hia.more b107 (Nat.le_refl _)
       replace hca := hca.more b107 (Nat.le_refl _)
       replace k3 := k3.below b107
       replace k8 := k8.below b107
       replace k14 := k14.below b107
       replace k28 := k28.below b107
       replace k74 := k74.below b107
       replace k92 := k92.below b107
       replace hB := below_then hB b107
       replace hL := LL.more hL z108
       refine WL.do (dx_store (cs' := [.int .i64 a.kind, .int .i64 a.num, .string a.text, a.nv, a.iv]) (vs := [.int .i64 a.kind, .int .i64 a.num, .string a.text, a.nv, a.iv]) rfl ty_size_26_5 rfl rfl rfl (oc_cons rfl (oc_cons rfl (oc_cons rfl (oc_cons hna.one (oc_cons hia.one oc_nil))))) k106 rfl (Nat.le_of_ble_eq_true rfl) rfl) rfl ?_
       rintro _ W116 ⟨k118, o117⟩
       replace k3 := k3.other o117 n109
       replace k8 := k8.other o117 n110
       replace k14 := k14.other o117 n111
       replace k28 := k28.other o117 n112
       replace k74 := k74.other o117 n113
       replace k92 := k92.other o117 n114
       clear k106
       replace hnp := hnp.only o117 (.head _)
       replace hip := hip.only o117 (.head _)
       replace hcp := hcp.only o117 (.head _)
       replace hnq := hnq.only o117 (.head _)
       replace hiq := hiq.only o117 (.head _)
       replace hcq := hcq.only o117 (.head _)
       replace hnt := hnt.only o117 (.head _)
       replace hit := hit.only o117 (.head _)
       replace hct := hct.only o117 (.head _)
       replace hny := hny.only o117 (.head _)
       replace hiy := hiy.only o117 (.head _)
       replace hcy := hcy.only o117 (.head _)
       replace hna := hna.only o117 (.head _)
       replace hia := hia.only o117 (.head _)
       replace hca := hca.only o117 (.head _)
       replace hB := o117.below hB l115
       replace hL := LL.only hL o117
       refine WL.val (dx_assign rfl rfl) rfl rfl ?_
       refine WL.nil ?_
       refine hK102 ?_
       refine WC.seq fun K119 hK119 => ?_
       refine WC.region ?_
       refine WL.val (dx_loadN rfl ty_agg_26_5 rfl k74.range rfl) rfl rfl ?_
       refine WL.val (dx_idxA (o1 := 1) rfl Try.underlying46 ty_size_9_1 rfl rfl (by omega) rfl) rfl rfl ?_
       refine WL.val (dx_load rfl ty_one_9 rfl (k14.cell (k := 1) rfl)) rfl rfl ?_
       refine WL.get (dx_cv rfl Try.func17 rfl rfl rfl (getE_v (n + 1) t b_ _ false W116 _ hL (show RdT (n + 1 + 1) (W104.heap.size :: W79.heap.size :: W62.heap.size :: W23.heap.size :: W7.heap.size :: W2.heap.size :: w.heap.size :: L) W116 t from ⟨hnt, hit, hct⟩) (hg3))) rfl rfl ?_
       rintro _ W121 ⟨⟨b, rfl, hbe, hbt⟩, b120⟩
       replace hnp := hnp.below b120
       replace hip := hip.below b120
       replace hcp := hcp.below b120
       replace hnq := hnq.below b120
       replace hiq := hiq.below b120
       replace hcq := hcq.below b120
       replace hnt := hnt.below b120
       replace hit := hit.below b120
       replace hct := hct.below b120
       replace hny := hny.below b120
       replace hiy := hiy.below b120
       replace hcy := hcy.below b120
       replace hna := hna.below b120
       replace hia := hia.below b120
       replace hca := hca.below b120
       replace k3 := k3.below b120
       replace k8 := k8.below b120
       replace k14 := k14.below b120
       replace k28 := k28.below b120
       replace k74 := k74.below b120
       replace k92 := k92.below b120
       replace k118 := k118.below b120
       replace hB := below_then hB b120
       replace hL := LL.below hL b120
       obtain ⟨hnb, hib, hcb⟩ := hbt
       replace hcb : RdTs (n + 1) (W104.heap.size :: W79.heap.size :: W62.heap.size :: W23.heap.size :: W7.heap.size :: W2.heap.size :: w.heap.size :: L) W121 b.items := hcb
       refine WL.val (dx_move rfl rfl) rfl rfl ?_
       refine WL.val (dx_extract rfl rfl rfl) rfl rfl ?_
       refine WL.val (dx_extract rfl rfl rfl) rfl rfl ?_
       refine WL.get (dx_alloc rfl ty_zero_26 rfl) rfl rfl ?_
       rintro _ W122 ⟨rfl, k123, b124, z125⟩
       have n126 : w.heap.size ≠ W121.heap.size := Nat.ne_of_lt k3.lt
       have n127 : W2.heap.size ≠ W121.heap.size := Nat.ne_of_lt k8.lt
       have n128 : W7.heap.size ≠ W121.heap.size := Nat.ne_of_lt k14.lt
       have n129 : W23.heap.size ≠ W121.heap.size := Nat.ne_of_lt k28.lt
       have n130 : W62.heap.size ≠ W121.heap.size := Nat.ne_of_lt k74.lt
       have n131 : W79.heap.size ≠ W121.heap.size := Nat.ne_of_lt k92.lt
       have n132 : W104.heap.size ≠ W121.heap.size := Nat.ne_of_lt k118.lt
       have l133 := hB.size
       replace hnp := hnp.more b124 (Nat.le_refl _)
       replace hip := hip.more b124 (Nat.le_refl _)
       replace hcp := hcp.more b124 (Nat.le_refl _)
       replace hnq := hnq.more b124 (Nat.le_refl _)
       replace hiq := hiq.more b124 (Nat.le_refl _)
       replace hcq := hcq.more b124 (Nat.le_refl _)
       replace hnt := hnt.more b124 (Nat.le_refl _)
       replace hit := hit.more b124 (Nat.le_refl _)
       replace hct := hct.more b124 (Nat.le_refl _)
       replace hny := hny.more b124 (Nat.le_refl _)
       replace hiy := hiy.more b124 (Nat.le_refl _)
       replace hcy := hcy.more b124 (Nat.le_refl _)
       replace hna := hna.more b124 (Nat.le_refl _)
       replace hia := hia.more b124 (Nat.le_refl _)
       replace hca := hca.more b124 (Nat.le_refl _)
       replace hnb := hnb.more b124 (Nat.le_refl _)
       replace hib := hib.more b124 (Nat.le_refl _)
       replace hcb := hcb.more b124 (Nat.le_refl _)
       replace k3 := k3.below b124
       replace k8 := k8.below b124
       replace k14 := k14.below b124
       replace k28 := k28.below b124
       replace k74 := k74.below b124
       replace k92 := k92.below b124
       replace k118 := k118.below b124
       replace hB := below_then hB b124
       replace hL := LL.more hL z125
       refine WL.do (dx_store (cs' := [.int .i64 b.kind, .int .i64 b.num, .string b.text, b.nv, b.iv]) (vs := [.int .i64 b.kind, .int .i64 b.num, .string b.text, b.nv, b.iv]) rfl ty_size_26_5 rfl rfl rfl (oc_cons rfl (oc_cons rfl (oc_cons rfl (oc_cons hnb.one (oc_cons hib.one oc_nil))))) k123 rfl (Nat.le_of_ble_eq_true rfl) rfl) rfl ?_
       rintro _ W134 ⟨k136, o135⟩
       replace k3 := k3.other o135 n126
       replace k8 := k8.other o135 n127
       replace k14 := k14.other o135 n128
       replace k28 := k28.other o135 n129
       replace k74 := k74.other o135 n130
       replace k92 := k92.other o135 n131
       replace k118 := k118.other o135 n132
       clear k123
       replace hnp := hnp.only o135 (.head _)
       replace hip := hip.only o135 (.head _)
       replace hcp := hcp.only o135 (.head _)
       replace hnq := hnq.only o135 (.head _)
       replace hiq := hiq.only o135 (.head _)
       replace hcq := hcq.only o135 (.head _)
       replace hnt := hnt.only o135 (.head _)
       replace hit := hit.only o135 (.head _)
       replace hct := hct.only o135 (.head _)
       replace hny := hny.only o135 (.head _)
       replace hiy := hiy.only o135 (.head _)
       replace hcy := hcy.only o135 (.head _)
       replace hna := hna.only o135 (.head _)
       replace hia := hia.only o135 (.head _)
       replace hca := hca.only o135 (.head _)
       replace hnb := hnb.only o135 (.head _)
       replace hib := hib.only o135 (.head _)
       replace hcb := hcb.only o135 (.head _)
       replace hB := o135.below hB l133
       replace hL := LL.only hL o135
       refine WL.val (dx_assign rfl rfl) rfl rfl ?_
       refine WL.nil ?_
       refine hK119 ?_
       refine WC.seq fun K137 hK137 => ?_
       refine WC.region ?_
       refine WL.val (dx_move rfl rfl) rfl rfl ?_
       refine WL.val (dx_move rfl rfl) rfl rfl ?_
       refine WL.val (dv_Fz (dx_neqB rfl Try.underlying4 rfl rfl) rfl) rfl rfl ?_
       refine WL.val (dx_move rfl rfl) rfl rfl ?_
       refine WL.val (dx_loadN rfl ty_agg_26_5 rfl k118.range rfl) rfl rfl ?_
       refine WL.val (dx_loadN rfl ty_agg_26_5 rfl k136.range rfl) rfl rfl ?_
       refine WL.get (dx_cv rfl Try.func14 rfl rfl rfl (alikeE_v (n + 1) a b W134 _ hL ((show RdT (n + 1) (W121.heap.size :: W104.heap.size :: W79.heap.size :: W62.heap.size :: W23.heap.size :: W7.heap.size :: W2.heap.size :: w.heap.size :: L) W134 a from ⟨hna, hia, hca⟩).up) (show RdT (n + 1 + 1) (W121.heap.size :: W104.heap.size :: W79.heap.size :: W62.heap.size :: W23.heap.size :: W7.heap.size :: W2.heap.size :: w.heap.size :: L) W134 b from ⟨hnb, hib, hcb⟩) (hae.trans hbe.symm))) rfl rfl ?_
       rintro _ W139 ⟨rfl, b138⟩
       replace hnp := hnp.below b138
       replace hip := hip.below b138
       replace hcp := hcp.below b138
       replace hnq := hnq.below b138
       replace hiq := hiq.below b138
       replace hcq := hcq.below b138
       replace hnt := hnt.below b138
       replace hit := hit.below b138
       replace hct := hct.below b138
       replace hny := hny.below b138
       replace hiy := hiy.below b138
       replace hcy := hcy.below b138
       replace hna := hna.below b138
       replace hia := hia.below b138
       replace hca := hca.below b138
       replace hnb := hnb.below b138
       replace hib := hib.below b138
       replace hcb := hcb.below b138
       replace k3 := k3.below b138
       replace k8 := k8.below b138
       replace k14 := k14.below b138
       replace k28 := k28.below b138
       replace k74 := k74.below b138
       replace k92 := k92.below b138
       replace k118 := k118.below b138
       replace k136 := k136.below b138
       replace hB := below_then hB b138
       replace hL := LL.below hL b138
       refine WL.val (dx_not rfl rfl) rfl rfl ?_
       refine WL.val (dx_pick rfl rfl rfl) rfl rfl ?_
       refine WL.nil ?_
       refine hK137 ?_
       refine WC.condF rfl ?_
       refine WC.skip ?_
       refine hK99 ?_
       refine WC.seq fun K140 hK140 => ?_
       refine WC.region ?_
       refine WL.val (dx_loadN rfl ty_agg_26_5 rfl k74.range rfl) rfl rfl ?_
       refine WL.val (dx_idxA (o1 := 0) rfl Try.underlying46 ty_size_9_1 rfl rfl (by omega) rfl) rfl rfl ?_
       refine WL.val (dx_load rfl ty_one_9 rfl (k14.cell (k := 0) rfl)) rfl rfl ?_
       refine WL.get (dx_lit1 (r := [.string a_]) rfl ty_ap_23 (by decide) (by decide) rfl rfl rfl) rfl rfl ?_
       rintro u145 W141 ⟨k142, b143, z144⟩
       have l154 := hB.size
       replace hnp := hnp.more b143 (Nat.le_refl _)
       replace hip := hip.more b143 (Nat.le_refl _)
       replace hcp := hcp.more b143 (Nat.le_refl _)
       replace hnq := hnq.more b143 (Nat.le_refl _)
       replace hiq := hiq.more b143 (Nat.le_refl _)
       replace hcq := hcq.more b143 (Nat.le_refl _)
       replace hnt := hnt.more b143 (Nat.le_refl _)
       replace hit := hit.more b143 (Nat.le_refl _)
       replace hct := hct.more b143 (Nat.le_refl _)
       replace hny := hny.more b143 (Nat.le_refl _)
       replace hiy := hiy.more b143 (Nat.le_refl _)
       replace hcy := hcy.more b143 (Nat.le_refl _)
       replace hna := hna.more b143 (Nat.le_refl _)
       replace hia := hia.more b143 (Nat.le_refl _)
       replace hca := hca.more b143 (Nat.le_refl _)
       replace hnb := hnb.more b143 (Nat.le_refl _)
       replace hib := hib.more b143 (Nat.le_refl _)
       replace hcb := hcb.more b143 (Nat.le_refl _)
       replace k3 := k3.below b143
       replace k8 := k8.below b143
       replace k14 := k14.below b143
       replace k28 := k28.below b143
       replace k74 := k74.below b143
       replace k92 := k92.below b143
       replace k118 := k118.below b143
       replace k136 := k136.below b143
       replace hB := below_then hB b143
       replace hL := LL.more hL z144
       refine WL.get (dx_cv rfl Try.func26 rfl rfl rfl (jWithout_v (n + 1) t [a_] _ W141 _ hL (show RdT (n + 1 + 1) (W139.heap.size :: W121.heap.size :: W104.heap.size :: W79.heap.size :: W62.heap.size :: W23.heap.size :: W7.heap.size :: W2.heap.size :: w.heap.size :: L) W141 t from ⟨hnt, hit, hct⟩) (k142.rd (L := []) (by simp)) hzt (by simp))) rfl rfl ?_
       rintro _ W156 ⟨⟨u, rfl, hue, hut⟩, b155⟩
       replace hnp := hnp.below b155
       replace hip := hip.below b155
       replace hcp := hcp.below b155
       replace hnq := hnq.below b155
       replace hiq := hiq.below b155
       replace hcq := hcq.below b155
       replace hnt := hnt.below b155
       replace hit := hit.below b155
       replace hct := hct.below b155
       replace hny := hny.below b155
       replace hiy := hiy.below b155
       replace hcy := hcy.below b155
       replace hna := hna.below b155
       replace hia := hia.below b155
       replace hca := hca.below b155
       replace hnb := hnb.below b155
       replace hib := hib.below b155
       replace hcb := hcb.below b155
       replace k3 := k3.below b155
       replace k8 := k8.below b155
       replace k14 := k14.below b155
       replace k28 := k28.below b155
       replace k74 := k74.below b155
       replace k92 := k92.below b155
       replace k118 := k118.below b155
       replace k136 := k136.below b155
       replace k142 := k142.below b155
       replace hB := below_then hB b155
       replace hL := LL.below hL b155
       obtain ⟨hnu, hiu, hcu⟩ := hut
       replace hcu : RdTs (n + 1) (W139.heap.size :: W121.heap.size :: W104.heap.size :: W79.heap.size :: W62.heap.size :: W23.heap.size :: W7.heap.size :: W2.heap.size :: w.heap.size :: L) W156 u.items := hcu
       have hzu : SzT 1000000 (n + 1 + 1) u := szT_J.2 (by rw [hue]; exact without_sz (szT_J.1 hzt))
       have hru : rightJ upB 12 u.er = true := by rw [hue]; exact without_right hkt hrt
       refine WL.get (dx_alloc rfl ty_zero_26 rfl) rfl rfl ?_
       rintro _ W157 ⟨rfl, k158, b159, z160⟩
       have n161 : w.heap.size ≠ W156.heap.size := Nat.ne_of_lt k3.lt
       have n162 : W2.heap.size ≠ W156.heap.size := Nat.ne_of_lt k8.lt
       have n163 : W7.heap.size ≠ W156.heap.size := Nat.ne_of_lt k14.lt
       have n164 : W23.heap.size ≠ W156.heap.size := Nat.ne_of_lt k28.lt
       have n165 : W62.heap.size ≠ W156.heap.size := Nat.ne_of_lt k74.lt
       have n166 : W79.heap.size ≠ W156.heap.size := Nat.ne_of_lt k92.lt
       have n167 : W104.heap.size ≠ W156.heap.size := Nat.ne_of_lt k118.lt
       have n168 : W121.heap.size ≠ W156.heap.size := Nat.ne_of_lt k136.lt
       have n169 : W139.heap.size ≠ W156.heap.size := Nat.ne_of_lt k142.lt
       have l170 := hB.size
       replace hnp := hnp.more b159 (Nat.le_refl _)
       replace hip := hip.more b159 (Nat.le_refl _)
       replace hcp := hcp.more b159 (Nat.le_refl _)
       replace hnq := hnq.more b159 (Nat.le_refl _)
       replace hiq := hiq.more b159 (Nat.le_refl _)
       replace hcq := hcq.more b159 (Nat.le_refl _)
       replace hnt := hnt.more b159 (Nat.le_refl _)
       replace hit := hit.more b159 (Nat.le_refl _)
       replace hct := hct.more b159 (Nat.le_refl _)
       replace hny := hny.more b159 (Nat.le_refl _)
       replace hiy := hiy.more b159 (Nat.le_refl _)
       replace hcy := hcy.more b159 (Nat.le_refl _)
       replace hna := hna.more b159 (Nat.le_refl _)
       replace hia := hia.more b159 (Nat.le_refl _)
       replace hca := hca.more b159 (Nat.le_refl _)
       replace hnb := hnb.more b159 (Nat.le_refl _)
       replace hib := hib.more b159 (Nat.le_refl _)
       replace hcb := hcb.more b159 (Nat.le_refl _)
       replace hnu := hnu.more b159 (Nat.le_refl _)
       replace hiu := hiu.more b159 (Nat.le_refl _)
       replace hcu := hcu.more b159 (Nat.le_refl _)
       replace k3 := k3.below b159
       replace k8 := k8.below b159
       replace k14 := k14.below b159
       replace k28 := k28.below b159
       replace k74 := k74.below b159
       replace k92 := k92.below b159
       replace k118 := k118.below b159
       replace k136 := k136.below b159
       replace k142 := k142.below b159
       replace hB := below_then hB b159
       replace hL := LL.more hL z160
       refine WL.do (dx_store (cs' := [.int .i64 u.kind, .int .i64 u.num, .string u.text, u.nv, u.iv]) (vs := [.int .i64 u.kind, .int .i64 u.num, .string u.text, u.nv, u.iv]) rfl ty_size_26_5 rfl rfl rfl (oc_cons rfl (oc_cons rfl (oc_cons rfl (oc_cons hnu.one (oc_cons hiu.one oc_nil))))) k158 rfl (Nat.le_of_ble_eq_true rfl) rfl) rfl ?_
       rintro _ W171 ⟨k173, o172⟩
       replace k3 := k3.other o172 n161
       replace k8 := k8.other o172 n162
       replace k14 := k14.other o172 n163
       replace k28 := k28.other o172 n164
       replace k74 := k74.other o172 n165
       replace k92 := k92.other o172 n166
       replace k118 := k118.other o172 n167
       replace k136 := k136.other o172 n168
       replace k142 := k142.other o172 n169
       clear k158
       replace hnp := hnp.only o172 (.head _)
       replace hip := hip.only o172 (.head _)
       replace hcp := hcp.only o172 (.head _)
       replace hnq := hnq.only o172 (.head _)
       replace hiq := hiq.only o172 (.head _)
       replace hcq := hcq.only o172 (.head _)
       replace hnt := hnt.only o172 (.head _)
       replace hit := hit.only o172 (.head _)
       replace hct := hct.only o172 (.head _)
       replace hny := hny.only o172 (.head _)
       replace hiy := hiy.only o172 (.head _)
       replace hcy := hcy.only o172 (.head _)
       replace hna := hna.only o172 (.head _)
       replace hia := hia.only o172 (.head _)
       replace hca := hca.only o172 (.head _)
       replace hnb := hnb.only o172 (.head _)
       replace hib := hib.only o172 (.head _)
       replace hcb := hcb.only o172 (.head _)
       replace hnu := hnu.only o172 (.head _)
       replace hiu := hiu.only o172 (.head _)
       replace hcu := hcu.only o172 (.head _)
       replace hB := o172.below hB l170
       replace hL := LL.only hL o172
       refine WL.nil ?_
       refine hK140 ?_
       refine WC.seq fun K174 hK174 => ?_
       refine WC.region ?_
       refine WL.val (dx_loadN rfl ty_agg_26_5 rfl k173.range rfl) rfl rfl ?_
       refine WL.val (dx_idxA (o1 := 0) rfl Try.underlying46 ty_size_9_1 rfl rfl (by omega) rfl) rfl rfl ?_
       refine WL.val (dx_load rfl ty_one_9 rfl (k14.cell (k := 0) rfl)) rfl rfl ?_
       refine WL.get (dx_cv rfl Try.func17 rfl rfl rfl (getE_v (n + 1) u a_ _ false W171 _ hL (show RdT (n + 1 + 1) (W156.heap.size :: W139.heap.size :: W121.heap.size :: W104.heap.size :: W79.heap.size :: W62.heap.size :: W23.heap.size :: W7.heap.size :: W2.heap.size :: w.heap.size :: L) W171 u from ⟨hnu, hiu, hcu⟩) (by rw [hue]; exact without_get hkt hrt (.head _)))) rfl rfl ?_
       rintro _ W176 ⟨⟨z, rfl, hze, hzt⟩, b175⟩
       replace hnp := hnp.below b175
       replace hip := hip.below b175
       replace hcp := hcp.below b175
       replace hnq := hnq.below b175
       replace hiq := hiq.below b175
       replace hcq := hcq.below b175
       replace hnt := hnt.below b175
       replace hit := hit.below b175
       replace hct := hct.below b175
       replace hny := hny.below b175
       replace hiy := hiy.below b175
       replace hcy := hcy.below b175
       replace hna := hna.below b175
       replace hia := hia.below b175
       replace hca := hca.below b175
       replace hnb := hnb.below b175
       replace hib := hib.below b175
       replace hcb := hcb.below b175
       replace hnu := hnu.below b175
       replace hiu := hiu.below b175
       replace hcu := hcu.below b175
       replace k3 := k3.below b175
       replace k8 := k8.below b175
       replace k14 := k14.below b175
       replace k28 := k28.below b175
       replace k74 := k74.below b175
       replace k92 := k92.below b175
       replace k118 := k118.below b175
       replace k136 := k136.below b175
       replace k142 := k142.below b175
       replace k173 := k173.below b175
       replace hB := below_then hB b175
       replace hL := LL.below hL b175
       obtain ⟨hnz, hiz, hcz⟩ := hzt
       replace hcz : RdTs (n + 1) (W156.heap.size :: W139.heap.size :: W121.heap.size :: W104.heap.size :: W79.heap.size :: W62.heap.size :: W23.heap.size :: W7.heap.size :: W2.heap.size :: w.heap.size :: L) W176 z.items := hcz
       refine WL.val (dx_move rfl rfl) rfl rfl ?_
       refine WL.val (dx_extract rfl rfl rfl) rfl rfl ?_
       refine WL.val (dx_extract rfl rfl rfl) rfl rfl ?_
       refine WL.get (dx_alloc rfl ty_zero_26 rfl) rfl rfl ?_
       rintro _ W177 ⟨rfl, k178, b179, z180⟩
       have n181 : w.heap.size ≠ W176.heap.size := Nat.ne_of_lt k3.lt
       have n182 : W2.heap.size ≠ W176.heap.size := Nat.ne_of_lt k8.lt
       have n183 : W7.heap.size ≠ W176.heap.size := Nat.ne_of_lt k14.lt
       have n184 : W23.heap.size ≠ W176.heap.size := Nat.ne_of_lt k28.lt
       have n185 : W62.heap.size ≠ W176.heap.size := Nat.ne_of_lt k74.lt
       have n186 : W79.heap.size ≠ W176.heap.size := Nat.ne_of_lt k92.lt
       have n187 : W104.heap.size ≠ W176.heap.size := Nat.ne_of_lt k118.lt
       have n188 : W121.heap.size ≠ W176.heap.size := Nat.ne_of_lt k136.lt
       have n189 : W139.heap.size ≠ W176.heap.size := Nat.ne_of_lt k142.lt
       have n190 : W156.heap.size ≠ W176.heap.size := Nat.ne_of_lt k173.lt
       have l191 := hB.size
       replace hnp := hnp.more b179 (Nat.le_refl _)
       replace hip := hip.more b179 (Nat.le_refl _)
       replace hcp := hcp.more b179 (Nat.le_refl _)
       replace hnq := hnq.more b179 (Nat.le_refl _)
       replace hiq := hiq.more b179 (Nat.le_refl _)
       replace hcq := hcq.more b179 (Nat.le_refl _)
       replace hnt := hnt.more b179 (Nat.le_refl _)
       replace hit := hit.more b179 (Nat.le_refl _)
       replace hct := hct.more b179 (Nat.le_refl _)
       replace hny := hny.more b179 (Nat.le_refl _)
       replace hiy := hiy.more b179 (Nat.le_refl _)
       replace hcy := hcy.more b179 (Nat.le_refl _)
       replace hna := hna.more b179 (Nat.le_refl _)
       replace hia := hia.more b179 (Nat.le_refl _)
       replace hca := hca.more b179 (Nat.le_refl _)
       replace hnb := hnb.more b179 (Nat.le_refl _)
       replace hib := hib.more b179 (Nat.le_refl _)
       replace hcb := hcb.more b179 (Nat.le_refl _)
       replace hnu := hnu.more b179 (Nat.le_refl _)
       replace hiu := hiu.more b179 (Nat.le_refl _)
       replace hcu := hcu.more b179 (Nat.le_refl _)
       replace hnz := hnz.more b179 (Nat.le_refl _)
       replace hiz := hiz.more b179 (Nat.le_refl _)
       replace hcz := hcz.more b179 (Nat.le_refl _)
       replace k3 := k3.below b179
       replace k8 := k8.below b179
       replace k14 := k14.below b179
       replace k28 := k28.below b179
       replace k74 := k74.below b179
       replace k92 := k92.below b179
       replace k118 := k118.below b179
       replace k136 := k136.below b179
       replace k142 := k142.below b179
       replace k173 := k173.below b179
       replace hB := below_then hB b179
       replace hL := LL.more hL z180
       refine WL.do (dx_store (cs' := [.int .i64 z.kind, .int .i64 z.num, .string z.text, z.nv, z.iv]) (vs := [.int .i64 z.kind, .int .i64 z.num, .string z.text, z.nv, z.iv]) rfl ty_size_26_5 rfl rfl rfl (oc_cons rfl (oc_cons rfl (oc_cons rfl (oc_cons hnz.one (oc_cons hiz.one oc_nil))))) k178 rfl (Nat.le_of_ble_eq_true rfl) rfl) rfl ?_
       rintro _ W192 ⟨k194, o193⟩
       replace k3 := k3.other o193 n181
       replace k8 := k8.other o193 n182
       replace k14 := k14.other o193 n183
       replace k28 := k28.other o193 n184
       replace k74 := k74.other o193 n185
       replace k92 := k92.other o193 n186
       replace k118 := k118.other o193 n187
       replace k136 := k136.other o193 n188
       replace k142 := k142.other o193 n189
       replace k173 := k173.other o193 n190
       clear k178
       replace hnp := hnp.only o193 (.head _)
       replace hip := hip.only o193 (.head _)
       replace hcp := hcp.only o193 (.head _)
       replace hnq := hnq.only o193 (.head _)
       replace hiq := hiq.only o193 (.head _)
       replace hcq := hcq.only o193 (.head _)
       replace hnt := hnt.only o193 (.head _)
       replace hit := hit.only o193 (.head _)
       replace hct := hct.only o193 (.head _)
       replace hny := hny.only o193 (.head _)
       replace hiy := hiy.only o193 (.head _)
       replace hcy := hcy.only o193 (.head _)
       replace hna := hna.only o193 (.head _)
       replace hia := hia.only o193 (.head _)
       replace hca := hca.only o193 (.head _)
       replace hnb := hnb.only o193 (.head _)
       replace hib := hib.only o193 (.head _)
       replace hcb := hcb.only o193 (.head _)
       replace hnu := hnu.only o193 (.head _)
       replace hiu := hiu.only o193 (.head _)
       replace hcu := hcu.only o193 (.head _)
       replace hnz := hnz.only o193 (.head _)
       replace hiz := hiz.only o193 (.head _)
       replace hcz := hcz.only o193 (.head _)
       replace hB := o193.below hB l191
       replace hL := LL.only hL o193
       refine WL.val (dx_assign rfl rfl) rfl rfl ?_
       refine WL.nil ?_
       refine hK174 ?_
       refine WC.seq fun K195 hK195 => ?_
       refine WC.region ?_
       refine WL.val (dx_move rfl rfl) rfl rfl ?_
       refine WL.val (dx_not rfl rfl) rfl rfl ?_
       refine WL.val (dx_move rfl rfl) rfl rfl ?_
       refine WL.val (dx_loadN rfl ty_agg_26_5 rfl k173.range rfl) rfl rfl ?_
       refine WL.get (dx_cv rfl Try.func15 rfl rfl rfl (rightE_v (n + 1) u true W192 _ hL (show RdT (n + 1 + 1) (W176.heap.size :: W156.heap.size :: W139.heap.size :: W121.heap.size :: W104.heap.size :: W79.heap.size :: W62.heap.size :: W23.heap.size :: W7.heap.size :: W2.heap.size :: w.heap.size :: L) W192 u from ⟨hnu, hiu, hcu⟩) hzu hru)) rfl rfl ?_
       rintro _ W197 ⟨rfl, b196⟩
       replace hnp := hnp.below b196
       replace hip := hip.below b196
       replace hcp := hcp.below b196
       replace hnq := hnq.below b196
       replace hiq := hiq.below b196
       replace hcq := hcq.below b196
       replace hnt := hnt.below b196
       replace hit := hit.below b196
       replace hct := hct.below b196
       replace hny := hny.below b196
       replace hiy := hiy.below b196
       replace hcy := hcy.below b196
       replace hna := hna.below b196
       replace hia := hia.below b196
       replace hca := hca.below b196
       replace hnb := hnb.below b196
       replace hib := hib.below b196
       replace hcb := hcb.below b196
       replace hnu := hnu.below b196
       replace hiu := hiu.below b196
       replace hcu := hcu.below b196
       replace hnz := hnz.below b196
       replace hiz := hiz.below b196
       replace hcz := hcz.below b196
       replace k3 := k3.below b196
       replace k8 := k8.below b196
       replace k14 := k14.below b196
       replace k28 := k28.below b196
       replace k74 := k74.below b196
       replace k92 := k92.below b196
       replace k118 := k118.below b196
       replace k136 := k136.below b196
       replace k142 := k142.below b196
       replace k173 := k173.below b196
       replace k194 := k194.below b196
       replace hB := below_then hB b196
       replace hL := LL.below hL b196
       refine WL.val (dx_pick rfl rfl rfl) rfl rfl ?_
       refine WL.val (dx_assign rfl rfl) rfl rfl ?_
       refine WL.nil ?_
       refine hK195 ?_
       refine WC.ret fun a_ ha_ => ?_
       exact hQ (cv_ret1 rfl (.tmp rfl) rfl hB ha_)
      ·
       refine WC.region ?_
       refine WL.val (dx_loadN rfl ty_agg_26_5 rfl k3.range rfl) rfl rfl ?_
       refine WL.val (dx_idxA (o1 := 1) rfl Try.underlying46 ty_size_9_1 rfl rfl (by omega) rfl) rfl rfl ?_
       refine WL.val (dx_load rfl ty_one_9 rfl (k14.cell (k := 1) rfl)) rfl rfl ?_
       refine WL.get (dx_cv rfl Try.func17 rfl rfl rfl (getE_v (n) p b_ _ true W98 _ hL (show RdT (n + 1) (W79.heap.size :: W62.heap.size :: W23.heap.size :: W7.heap.size :: W2.heap.size :: w.heap.size :: L) W98 p from ⟨hnp, hip, hcp⟩) (hg2))) rfl rfl ?_
       rintro _ W199 ⟨⟨a, rfl, hae, hat⟩, b198⟩
       replace hnp := hnp.below b198
       replace hip := hip.below b198
       replace hcp := hcp.below b198
       replace hnq := hnq.below b198
       replace hiq := hiq.below b198
       replace hcq := hcq.below b198
       replace hnt := hnt.below b198
       replace hit := hit.below b198
       replace hct := hct.below b198
       replace hny := hny.below b198
       replace hiy := hiy.below b198
       replace hcy := hcy.below b198
       replace k3 := k3.below b198
       replace k8 := k8.below b198
       replace k14 := k14.below b198
       replace k28 := k28.below b198
       replace k74 := k74.below b198
       replace k92 := k92.below b198
       replace hB := below_then hB b198
       replace hL := LL.below hL b198
       obtain ⟨hna, hia, hca⟩ := hat
       replace hca : RdTs (n) (W79.heap.size :: W62.heap.size :: W23.heap.size :: W7.heap.size :: W2.heap.size :: w.heap.size :: L) W199 a.items := hca
       refine WL.val (dx_move rfl rfl) rfl rfl ?_
       refine WL.val (dx_extract rfl rfl rfl) rfl rfl ?_
       refine WL.val (dx_extract rfl rfl rfl) rfl rfl ?_
       refine WL.get (dx_alloc rfl ty_zero_26 rfl) rfl rfl ?_
       rintro _ W200 ⟨rfl, k201, b202, z203⟩
       have n204 : w.heap.size ≠ W199.heap.size := Nat.ne_of_lt k3.lt
       have n205 : W2.heap.size ≠ W199.heap.size := Nat.ne_of_lt k8.lt
       have n206 : W7.heap.size ≠ W199.heap.size := Nat.ne_of_lt k14.lt
       have n207 : W23.heap.size ≠ W199.heap.size := Nat.ne_of_lt k28.lt
       have n208 : W62.heap.size ≠ W199.heap.size := Nat.ne_of_lt k74.lt
       have n209 : W79.heap.size ≠ W199.heap.size := Nat.ne_of_lt k92.lt
       have l210 := hB.size
       replace hnp := hnp.more b202 (Nat.le_refl _)
       replace hip := hip.more b202 (Nat.le_refl _)
       replace hcp := hcp.more b202 (Nat.le_refl _)
       replace hnq := hnq.more b202 (Nat.le_refl _)
       replace hiq := hiq.more b202 (Nat.le_refl _)
       replace hcq := hcq.more b202 (Nat.le_refl _)
       replace hnt := hnt.more b202 (Nat.le_refl _)
       replace hit := hit.more b202 (Nat.le_refl _)
       replace hct := hct.more b202 (Nat.le_refl _)
       replace hny := hny.more b202 (Nat.le_refl _)
       replace hiy := hiy.more b202 (Nat.le_refl _)
       replace hcy := hcy.more b202 (Nat.le_refl _)
       replace hna := hna.more b202 (Nat.le_refl _)
       replace hia := hia.more b202 (Nat.le_refl _)
       replace hca := hca.more b202 (Nat.le_refl _)
       replace k3 := k3.below b202
       replace k8 := k8.below b202
       replace k14 := k14.below b202
       replace k28 := k28.below b202
       replace k74 := k74.below b202
       replace k92 := k92.below b202
       replace hB := below_then hB b202
       replace hL := LL.more hL z203
       refine WL.do (dx_store (cs' := [.int .i64 a.kind, .int .i64 a.num, .string a.text, a.nv, a.iv]) (vs := [.int .i64 a.kind, .int .i64 a.num, .string a.text, a.nv, a.iv]) rfl ty_size_26_5 rfl rfl rfl (oc_cons rfl (oc_cons rfl (oc_cons rfl (oc_cons hna.one (oc_cons hia.one oc_nil))))) k201 rfl (Nat.le_of_ble_eq_true rfl) rfl) rfl ?_
       rintro _ W211 ⟨k213, o212⟩
       replace k3 := k3.other o212 n204
       replace k8 := k8.other o212 n205
       replace k14 := k14.other o212 n206
       replace k28 := k28.other o212 n207
       replace k74 := k74.other o212 n208
       replace k92 := k92.other o212 n209
       clear k201
       replace hnp := hnp.only o212 (.head _)
       replace hip := hip.only o212 (.head _)
       replace hcp := hcp.only o212 (.head _)
       replace hnq := hnq.only o212 (.head _)
       replace hiq := hiq.only o212 (.head _)
       replace hcq := hcq.only o212 (.head _)
       replace hnt := hnt.only o212 (.head _)
       replace hit := hit.only o212 (.head _)
       replace hct := hct.only o212 (.head _)
       replace hny := hny.only o212 (.head _)
       replace hiy := hiy.only o212 (.head _)
       replace hcy := hcy.only o212 (.head _)
       replace hna := hna.only o212 (.head _)
       replace hia := hia.only o212 (.head _)
       replace hca := hca.only o212 (.head _)
       replace hB := o212.below hB l210
       replace hL := LL.only hL o212
       refine WL.val (dx_assign rfl rfl) rfl rfl ?_
       refine WL.nil ?_
       refine hK102 ?_
       refine WC.seq fun K214 hK214 => ?_
       refine WC.region ?_
       refine WL.val (dx_loadN rfl ty_agg_26_5 rfl k74.range rfl) rfl rfl ?_
       refine WL.val (dx_idxA (o1 := 1) rfl Try.underlying46 ty_size_9_1 rfl rfl (by omega) rfl) rfl rfl ?_
       refine WL.val (dx_load rfl ty_one_9 rfl (k14.cell (k := 1) rfl)) rfl rfl ?_
       refine WL.get (dx_cv rfl Try.func17 rfl rfl rfl (getE_v (n + 1) t b_ _ true W211 _ hL (show RdT (n + 1 + 1) (W199.heap.size :: W79.heap.size :: W62.heap.size :: W23.heap.size :: W7.heap.size :: W2.heap.size :: w.heap.size :: L) W211 t from ⟨hnt, hit, hct⟩) (hg3))) rfl rfl ?_
       rintro _ W216 ⟨⟨b, rfl, hbe, hbt⟩, b215⟩
       replace hnp := hnp.below b215
       replace hip := hip.below b215
       replace hcp := hcp.below b215
       replace hnq := hnq.below b215
       replace hiq := hiq.below b215
       replace hcq := hcq.below b215
       replace hnt := hnt.below b215
       replace hit := hit.below b215
       replace hct := hct.below b215
       replace hny := hny.below b215
       replace hiy := hiy.below b215
       replace hcy := hcy.below b215
       replace hna := hna.below b215
       replace hia := hia.below b215
       replace hca := hca.below b215
       replace k3 := k3.below b215
       replace k8 := k8.below b215
       replace k14 := k14.below b215
       replace k28 := k28.below b215
       replace k74 := k74.below b215
       replace k92 := k92.below b215
       replace k213 := k213.below b215
       replace hB := below_then hB b215
       replace hL := LL.below hL b215
       obtain ⟨hnb, hib, hcb⟩ := hbt
       replace hcb : RdTs (n + 1) (W199.heap.size :: W79.heap.size :: W62.heap.size :: W23.heap.size :: W7.heap.size :: W2.heap.size :: w.heap.size :: L) W216 b.items := hcb
       refine WL.val (dx_move rfl rfl) rfl rfl ?_
       refine WL.val (dx_extract rfl rfl rfl) rfl rfl ?_
       refine WL.val (dx_extract rfl rfl rfl) rfl rfl ?_
       refine WL.get (dx_alloc rfl ty_zero_26 rfl) rfl rfl ?_
       rintro _ W217 ⟨rfl, k218, b219, z220⟩
       have n221 : w.heap.size ≠ W216.heap.size := Nat.ne_of_lt k3.lt
       have n222 : W2.heap.size ≠ W216.heap.size := Nat.ne_of_lt k8.lt
       have n223 : W7.heap.size ≠ W216.heap.size := Nat.ne_of_lt k14.lt
       have n224 : W23.heap.size ≠ W216.heap.size := Nat.ne_of_lt k28.lt
       have n225 : W62.heap.size ≠ W216.heap.size := Nat.ne_of_lt k74.lt
       have n226 : W79.heap.size ≠ W216.heap.size := Nat.ne_of_lt k92.lt
       have n227 : W199.heap.size ≠ W216.heap.size := Nat.ne_of_lt k213.lt
       have l228 := hB.size
       replace hnp := hnp.more b219 (Nat.le_refl _)
       replace hip := hip.more b219 (Nat.le_refl _)
       replace hcp := hcp.more b219 (Nat.le_refl _)
       replace hnq := hnq.more b219 (Nat.le_refl _)
       replace hiq := hiq.more b219 (Nat.le_refl _)
       replace hcq := hcq.more b219 (Nat.le_refl _)
       replace hnt := hnt.more b219 (Nat.le_refl _)
       replace hit := hit.more b219 (Nat.le_refl _)
       replace hct := hct.more b219 (Nat.le_refl _)
       replace hny := hny.more b219 (Nat.le_refl _)
       replace hiy := hiy.more b219 (Nat.le_refl _)
       replace hcy := hcy.more b219 (Nat.le_refl _)
       replace hna := hna.more b219 (Nat.le_refl _)
       replace hia := hia.more b219 (Nat.le_refl _)
       replace hca := hca.more b219 (Nat.le_refl _)
       replace hnb := hnb.more b219 (Nat.le_refl _)
       replace hib := hib.more b219 (Nat.le_refl _)
       replace hcb := hcb.more b219 (Nat.le_refl _)
       replace k3 := k3.below b219
       replace k8 := k8.below b219
       replace k14 := k14.below b219
       replace k28 := k28.below b219
       replace k74 := k74.below b219
       replace k92 := k92.below b219
       replace k213 := k213.below b219
       replace hB := below_then hB b219
       replace hL := LL.more hL z220
       refine WL.do (dx_store (cs' := [.int .i64 b.kind, .int .i64 b.num, .string b.text, b.nv, b.iv]) (vs := [.int .i64 b.kind, .int .i64 b.num, .string b.text, b.nv, b.iv]) rfl ty_size_26_5 rfl rfl rfl (oc_cons rfl (oc_cons rfl (oc_cons rfl (oc_cons hnb.one (oc_cons hib.one oc_nil))))) k218 rfl (Nat.le_of_ble_eq_true rfl) rfl) rfl ?_
       rintro _ W229 ⟨k231, o230⟩
       replace k3 := k3.other o230 n221
       replace k8 := k8.other o230 n222
       replace k14 := k14.other o230 n223
       replace k28 := k28.other o230 n224
       replace k74 := k74.other o230 n225
       replace k92 := k92.other o230 n226
       replace k213 := k213.other o230 n227
       clear k218
       replace hnp := hnp.only o230 (.head _)
       replace hip := hip.only o230 (.head _)
       replace hcp := hcp.only o230 (.head _)
       replace hnq := hnq.only o230 (.head _)
       replace hiq := hiq.only o230 (.head _)
       replace hcq := hcq.only o230 (.head _)
       replace hnt := hnt.only o230 (.head _)
       replace hit := hit.only o230 (.head _)
       replace hct := hct.only o230 (.head _)
       replace hny := hny.only o230 (.head _)
       replace hiy := hiy.only o230 (.head _)
       replace hcy := hcy.only o230 (.head _)
       replace hna := hna.only o230 (.head _)
       replace hia := hia.only o230 (.head _)
       replace hca := hca.only o230 (.head _)
       replace hnb := hnb.only o230 (.head _)
       replace hib := hib.only o230 (.head _)
       replace hcb := hcb.only o230 (.head _)
       replace hB := o230.below hB l228
       replace hL := LL.only hL o230
       refine WL.val (dx_assign rfl rfl) rfl rfl ?_
       refine WL.nil ?_
       refine hK214 ?_
       refine WC.seq fun K232 hK232 => ?_
       refine WC.region ?_
       refine WL.val (dx_move rfl rfl) rfl rfl ?_
       refine WL.val (dx_move rfl rfl) rfl rfl ?_
       refine WL.val (dv_Fz (dx_neqB rfl Try.underlying4 rfl rfl) rfl) rfl rfl ?_
       refine WL.val (dx_move rfl rfl) rfl rfl ?_
       refine WL.val (dx_loadN rfl ty_agg_26_5 rfl k213.range rfl) rfl rfl ?_
       refine WL.val (dx_loadN rfl ty_agg_26_5 rfl k231.range rfl) rfl rfl ?_
       refine WL.get (dx_cv rfl Try.func14 rfl rfl rfl (alikeE_v (n + 1) a b W229 _ hL ((show RdT (n + 1) (W216.heap.size :: W199.heap.size :: W79.heap.size :: W62.heap.size :: W23.heap.size :: W7.heap.size :: W2.heap.size :: w.heap.size :: L) W229 a from ⟨hna, hia, hca⟩).up) (show RdT (n + 1 + 1) (W216.heap.size :: W199.heap.size :: W79.heap.size :: W62.heap.size :: W23.heap.size :: W7.heap.size :: W2.heap.size :: w.heap.size :: L) W229 b from ⟨hnb, hib, hcb⟩) (hae.trans hbe.symm))) rfl rfl ?_
       rintro _ W234 ⟨rfl, b233⟩
       replace hnp := hnp.below b233
       replace hip := hip.below b233
       replace hcp := hcp.below b233
       replace hnq := hnq.below b233
       replace hiq := hiq.below b233
       replace hcq := hcq.below b233
       replace hnt := hnt.below b233
       replace hit := hit.below b233
       replace hct := hct.below b233
       replace hny := hny.below b233
       replace hiy := hiy.below b233
       replace hcy := hcy.below b233
       replace hna := hna.below b233
       replace hia := hia.below b233
       replace hca := hca.below b233
       replace hnb := hnb.below b233
       replace hib := hib.below b233
       replace hcb := hcb.below b233
       replace k3 := k3.below b233
       replace k8 := k8.below b233
       replace k14 := k14.below b233
       replace k28 := k28.below b233
       replace k74 := k74.below b233
       replace k92 := k92.below b233
       replace k213 := k213.below b233
       replace k231 := k231.below b233
       replace hB := below_then hB b233
       replace hL := LL.below hL b233
       refine WL.val (dx_not rfl rfl) rfl rfl ?_
       refine WL.val (dx_pick rfl rfl rfl) rfl rfl ?_
       refine WL.nil ?_
       refine hK232 ?_
       refine WC.condF rfl ?_
       refine WC.skip ?_
       refine hK99 ?_
       refine WC.seq fun K235 hK235 => ?_
       refine WC.region ?_
       refine WL.val (dx_loadN rfl ty_agg_26_5 rfl k74.range rfl) rfl rfl ?_
       refine WL.val (dx_idxA (o1 := 0) rfl Try.underlying46 ty_size_9_1 rfl rfl (by omega) rfl) rfl rfl ?_
       refine WL.val (dx_load rfl ty_one_9 rfl (k14.cell (k := 0) rfl)) rfl rfl ?_
       refine WL.get (dx_lit1 (r := [.string a_]) rfl ty_ap_23 (by decide) (by decide) rfl rfl rfl) rfl rfl ?_
       rintro u240 W236 ⟨k237, b238, z239⟩
       have l249 := hB.size
       replace hnp := hnp.more b238 (Nat.le_refl _)
       replace hip := hip.more b238 (Nat.le_refl _)
       replace hcp := hcp.more b238 (Nat.le_refl _)
       replace hnq := hnq.more b238 (Nat.le_refl _)
       replace hiq := hiq.more b238 (Nat.le_refl _)
       replace hcq := hcq.more b238 (Nat.le_refl _)
       replace hnt := hnt.more b238 (Nat.le_refl _)
       replace hit := hit.more b238 (Nat.le_refl _)
       replace hct := hct.more b238 (Nat.le_refl _)
       replace hny := hny.more b238 (Nat.le_refl _)
       replace hiy := hiy.more b238 (Nat.le_refl _)
       replace hcy := hcy.more b238 (Nat.le_refl _)
       replace hna := hna.more b238 (Nat.le_refl _)
       replace hia := hia.more b238 (Nat.le_refl _)
       replace hca := hca.more b238 (Nat.le_refl _)
       replace hnb := hnb.more b238 (Nat.le_refl _)
       replace hib := hib.more b238 (Nat.le_refl _)
       replace hcb := hcb.more b238 (Nat.le_refl _)
       replace k3 := k3.below b238
       replace k8 := k8.below b238
       replace k14 := k14.below b238
       replace k28 := k28.below b238
       replace k74 := k74.below b238
       replace k92 := k92.below b238
       replace k213 := k213.below b238
       replace k231 := k231.below b238
       replace hB := below_then hB b238
       replace hL := LL.more hL z239
       refine WL.get (dx_cv rfl Try.func26 rfl rfl rfl (jWithout_v (n + 1) t [a_] _ W236 _ hL (show RdT (n + 1 + 1) (W234.heap.size :: W216.heap.size :: W199.heap.size :: W79.heap.size :: W62.heap.size :: W23.heap.size :: W7.heap.size :: W2.heap.size :: w.heap.size :: L) W236 t from ⟨hnt, hit, hct⟩) (k237.rd (L := []) (by simp)) hzt (by simp))) rfl rfl ?_
       rintro _ W251 ⟨⟨u, rfl, hue, hut⟩, b250⟩
       replace hnp := hnp.below b250
       replace hip := hip.below b250
       replace hcp := hcp.below b250
       replace hnq := hnq.below b250
       replace hiq := hiq.below b250
       replace hcq := hcq.below b250
       replace hnt := hnt.below b250
       replace hit := hit.below b250
       replace hct := hct.below b250
       replace hny := hny.below b250
       replace hiy := hiy.below b250
       replace hcy := hcy.below b250
       replace hna := hna.below b250
       replace hia := hia.below b250
       replace hca := hca.below b250
       replace hnb := hnb.below b250
       replace hib := hib.below b250
       replace hcb := hcb.below b250
       replace k3 := k3.below b250
       replace k8 := k8.below b250
       replace k14 := k14.below b250
       replace k28 := k28.below b250
       replace k74 := k74.below b250
       replace k92 := k92.below b250
       replace k213 := k213.below b250
       replace k231 := k231.below b250
       replace k237 := k237.below b250
       replace hB := below_then hB b250
       replace hL := LL.below hL b250
       obtain ⟨hnu, hiu, hcu⟩ := hut
       replace hcu : RdTs (n + 1) (W234.heap.size :: W216.heap.size :: W199.heap.size :: W79.heap.size :: W62.heap.size :: W23.heap.size :: W7.heap.size :: W2.heap.size :: w.heap.size :: L) W251 u.items := hcu
       have hzu : SzT 1000000 (n + 1 + 1) u := szT_J.2 (by rw [hue]; exact without_sz (szT_J.1 hzt))
       have hru : rightJ upB 12 u.er = true := by rw [hue]; exact without_right hkt hrt
       refine WL.get (dx_alloc rfl ty_zero_26 rfl) rfl rfl ?_
       rintro _ W252 ⟨rfl, k253, b254, z255⟩
       have n256 : w.heap.size ≠ W251.heap.size := Nat.ne_of_lt k3.lt
       have n257 : W2.heap.size ≠ W251.heap.size := Nat.ne_of_lt k8.lt
       have n258 : W7.heap.size ≠ W251.heap.size := Nat.ne_of_lt k14.lt
       have n259 : W23.heap.size ≠ W251.heap.size := Nat.ne_of_lt k28.lt
       have n260 : W62.heap.size ≠ W251.heap.size := Nat.ne_of_lt k74.lt
       have n261 : W79.heap.size ≠ W251.heap.size := Nat.ne_of_lt k92.lt
       have n262 : W199.heap.size ≠ W251.heap.size := Nat.ne_of_lt k213.lt
       have n263 : W216.heap.size ≠ W251.heap.size := Nat.ne_of_lt k231.lt
       have n264 : W234.heap.size ≠ W251.heap.size := Nat.ne_of_lt k237.lt
       have l265 := hB.size
       replace hnp := hnp.more b254 (Nat.le_refl _)
       replace hip := hip.more b254 (Nat.le_refl _)
       replace hcp := hcp.more b254 (Nat.le_refl _)
       replace hnq := hnq.more b254 (Nat.le_refl _)
       replace hiq := hiq.more b254 (Nat.le_refl _)
       replace hcq := hcq.more b254 (Nat.le_refl _)
       replace hnt := hnt.more b254 (Nat.le_refl _)
       replace hit := hit.more b254 (Nat.le_refl _)
       replace hct := hct.more b254 (Nat.le_refl _)
       replace hny := hny.more b254 (Nat.le_refl _)
       replace hiy := hiy.more b254 (Nat.le_refl _)
       replace hcy := hcy.more b254 (Nat.le_refl _)
       replace hna := hna.more b254 (Nat.le_refl _)
       replace hia := hia.more b254 (Nat.le_refl _)
       replace hca := hca.more b254 (Nat.le_refl _)
       replace hnb := hnb.more b254 (Nat.le_refl _)
       replace hib := hib.more b254 (Nat.le_refl _)
       replace hcb := hcb.more b254 (Nat.le_refl _)
       replace hnu := hnu.more b254 (Nat.le_refl _)
       replace hiu := hiu.more b254 (Nat.le_refl _)
       replace hcu := hcu.more b254 (Nat.le_refl _)
       replace k3 := k3.below b254
       replace k8 := k8.below b254
       replace k14 := k14.below b254
       replace k28 := k28.below b254
       replace k74 := k74.below b254
       replace k92 := k92.below b254
       replace k213 := k213.below b254
       replace k231 := k231.below b254
       replace k237 := k237.below b254
       replace hB := below_then hB b254
       replace hL := LL.more hL z255
       refine WL.do (dx_store (cs' := [.int .i64 u.kind, .int .i64 u.num, .string u.text, u.nv, u.iv]) (vs := [.int .i64 u.kind, .int .i64 u.num, .string u.text, u.nv, u.iv]) rfl ty_size_26_5 rfl rfl rfl (oc_cons rfl (oc_cons rfl (oc_cons rfl (oc_cons hnu.one (oc_cons hiu.one oc_nil))))) k253 rfl (Nat.le_of_ble_eq_true rfl) rfl) rfl ?_
       rintro _ W266 ⟨k268, o267⟩
       replace k3 := k3.other o267 n256
       replace k8 := k8.other o267 n257
       replace k14 := k14.other o267 n258
       replace k28 := k28.other o267 n259
       replace k74 := k74.other o267 n260
       replace k92 := k92.other o267 n261
       replace k213 := k213.other o267 n262
       replace k231 := k231.other o267 n263
       replace k237 := k237.other o267 n264
       clear k253
       replace hnp := hnp.only o267 (.head _)
       replace hip := hip.only o267 (.head _)
       replace hcp := hcp.only o267 (.head _)
       replace hnq := hnq.only o267 (.head _)
       replace hiq := hiq.only o267 (.head _)
       replace hcq := hcq.only o267 (.head _)
       replace hnt := hnt.only o267 (.head _)
       replace hit := hit.only o267 (.head _)
       replace hct := hct.only o267 (.head _)
       replace hny := hny.only o267 (.head _)
       replace hiy := hiy.only o267 (.head _)
       replace hcy := hcy.only o267 (.head _)
       replace hna := hna.only o267 (.head _)
       replace hia := hia.only o267 (.head _)
       replace hca := hca.only o267 (.head _)
       replace hnb := hnb.only o267 (.head _)
       replace hib := hib.only o267 (.head _)
       replace hcb := hcb.only o267 (.head _)
       replace hnu := hnu.only o267 (.head _)
       replace hiu := hiu.only o267 (.head _)
       replace hcu := hcu.only o267 (.head _)
       replace hB := o267.below hB l265
       replace hL := LL.only hL o267
       refine WL.nil ?_
       refine hK235 ?_
       refine WC.seq fun K269 hK269 => ?_
       refine WC.region ?_
       refine WL.val (dx_loadN rfl ty_agg_26_5 rfl k268.range rfl) rfl rfl ?_
       refine WL.val (dx_idxA (o1 := 0) rfl Try.underlying46 ty_size_9_1 rfl rfl (by omega) rfl) rfl rfl ?_
       refine WL.val (dx_load rfl ty_one_9 rfl (k14.cell (k := 0) rfl)) rfl rfl ?_
       refine WL.get (dx_cv rfl Try.func17 rfl rfl rfl (getE_v (n + 1) u a_ _ false W266 _ hL (show RdT (n + 1 + 1) (W251.heap.size :: W234.heap.size :: W216.heap.size :: W199.heap.size :: W79.heap.size :: W62.heap.size :: W23.heap.size :: W7.heap.size :: W2.heap.size :: w.heap.size :: L) W266 u from ⟨hnu, hiu, hcu⟩) (by rw [hue]; exact without_get hkt hrt (.head _)))) rfl rfl ?_
       rintro _ W271 ⟨⟨z, rfl, hze, hzt⟩, b270⟩
       replace hnp := hnp.below b270
       replace hip := hip.below b270
       replace hcp := hcp.below b270
       replace hnq := hnq.below b270
       replace hiq := hiq.below b270
       replace hcq := hcq.below b270
       replace hnt := hnt.below b270
       replace hit := hit.below b270
       replace hct := hct.below b270
       replace hny := hny.below b270
       replace hiy := hiy.below b270
       replace hcy := hcy.below b270
       replace hna := hna.below b270
       replace hia := hia.below b270
       replace hca := hca.below b270
       replace hnb := hnb.below b270
       replace hib := hib.below b270
       replace hcb := hcb.below b270
       replace hnu := hnu.below b270
       replace hiu := hiu.below b270
       replace hcu := hcu.below b270
       replace k3 := k3.below b270
       replace k8 := k8.below b270
       replace k14 := k14.below b270
       replace k28 := k28.below b270
       replace k74 := k74.below b270
       replace k92 := k92.below b270
       replace k213 := k213.below b270
       replace k231 := k231.below b270
       replace k237 := k237.below b270
       replace k268 := k268.below b270
       replace hB := below_then hB b270
       replace hL := LL.below hL b270
       obtain ⟨hnz, hiz, hcz⟩ := hzt
       replace hcz : RdTs (n + 1) (W251.heap.size :: W234.heap.size :: W216.heap.size :: W199.heap.size :: W79.heap.size :: W62.heap.size :: W23.heap.size :: W7.heap.size :: W2.heap.size :: w.heap.size :: L) W271 z.items := hcz
       refine WL.val (dx_move rfl rfl) rfl rfl ?_
       refine WL.val (dx_extract rfl rfl rfl) rfl rfl ?_
       refine WL.val (dx_extract rfl rfl rfl) rfl rfl ?_
       refine WL.get (dx_alloc rfl ty_zero_26 rfl) rfl rfl ?_
       rintro _ W272 ⟨rfl, k273, b274, z275⟩
       have n276 : w.heap.size ≠ W271.heap.size := Nat.ne_of_lt k3.lt
       have n277 : W2.heap.size ≠ W271.heap.size := Nat.ne_of_lt k8.lt
       have n278 : W7.heap.size ≠ W271.heap.size := Nat.ne_of_lt k14.lt
       have n279 : W23.heap.size ≠ W271.heap.size := Nat.ne_of_lt k28.lt
       have n280 : W62.heap.size ≠ W271.heap.size := Nat.ne_of_lt k74.lt
       have n281 : W79.heap.size ≠ W271.heap.size := Nat.ne_of_lt k92.lt
       have n282 : W199.heap.size ≠ W271.heap.size := Nat.ne_of_lt k213.lt
       have n283 : W216.heap.size ≠ W271.heap.size := Nat.ne_of_lt k231.lt
       have n284 : W234.heap.size ≠ W271.heap.size := Nat.ne_of_lt k237.lt
       have n285 : W251.heap.size ≠ W271.heap.size := Nat.ne_of_lt k268.lt
       have l286 := hB.size
       replace hnp := hnp.more b274 (Nat.le_refl _)
       replace hip := hip.more b274 (Nat.le_refl _)
       replace hcp := hcp.more b274 (Nat.le_refl _)
       replace hnq := hnq.more b274 (Nat.le_refl _)
       replace hiq := hiq.more b274 (Nat.le_refl _)
       replace hcq := hcq.more b274 (Nat.le_refl _)
       replace hnt := hnt.more b274 (Nat.le_refl _)
       replace hit := hit.more b274 (Nat.le_refl _)
       replace hct := hct.more b274 (Nat.le_refl _)
       replace hny := hny.more b274 (Nat.le_refl _)
       replace hiy := hiy.more b274 (Nat.le_refl _)
       replace hcy := hcy.more b274 (Nat.le_refl _)
       replace hna := hna.more b274 (Nat.le_refl _)
       replace hia := hia.more b274 (Nat.le_refl _)
       replace hca := hca.more b274 (Nat.le_refl _)
       replace hnb := hnb.more b274 (Nat.le_refl _)
       replace hib := hib.more b274 (Nat.le_refl _)
       replace hcb := hcb.more b274 (Nat.le_refl _)
       replace hnu := hnu.more b274 (Nat.le_refl _)
       replace hiu := hiu.more b274 (Nat.le_refl _)
       replace hcu := hcu.more b274 (Nat.le_refl _)
       replace hnz := hnz.more b274 (Nat.le_refl _)
       replace hiz := hiz.more b274 (Nat.le_refl _)
       replace hcz := hcz.more b274 (Nat.le_refl _)
       replace k3 := k3.below b274
       replace k8 := k8.below b274
       replace k14 := k14.below b274
       replace k28 := k28.below b274
       replace k74 := k74.below b274
       replace k92 := k92.below b274
       replace k213 := k213.below b274
       replace k231 := k231.below b274
       replace k237 := k237.below b274
       replace k268 := k268.below b274
       replace hB := below_then hB b274
       replace hL := LL.more hL z275
       refine WL.do (dx_store (cs' := [.int .i64 z.kind, .int .i64 z.num, .string z.text, z.nv, z.iv]) (vs := [.int .i64 z.kind, .int .i64 z.num, .string z.text, z.nv, z.iv]) rfl ty_size_26_5 rfl rfl rfl (oc_cons rfl (oc_cons rfl (oc_cons rfl (oc_cons hnz.one (oc_cons hiz.one oc_nil))))) k273 rfl (Nat.le_of_ble_eq_true rfl) rfl) rfl ?_
       rintro _ W287 ⟨k289, o288⟩
       replace k3 := k3.other o288 n276
       replace k8 := k8.other o288 n277
       replace k14 := k14.other o288 n278
       replace k28 := k28.other o288 n279
       replace k74 := k74.other o288 n280
       replace k92 := k92.other o288 n281
       replace k213 := k213.other o288 n282
       replace k231 := k231.other o288 n283
       replace k237 := k237.other o288 n284
       replace k268 := k268.other o288 n285
       clear k273
       replace hnp := hnp.only o288 (.head _)
       replace hip := hip.only o288 (.head _)
       replace hcp := hcp.only o288 (.head _)
       replace hnq := hnq.only o288 (.head _)
       replace hiq := hiq.only o288 (.head _)
       replace hcq := hcq.only o288 (.head _)
       replace hnt := hnt.only o288 (.head _)
       replace hit := hit.only o288 (.head _)
       replace hct := hct.only o288 (.head _)
       replace hny := hny.only o288 (.head _)
       replace hiy := hiy.only o288 (.head _)
       replace hcy := hcy.only o288 (.head _)
       replace hna := hna.only o288 (.head _)
       replace hia := hia.only o288 (.head _)
       replace hca := hca.only o288 (.head _)
       replace hnb := hnb.only o288 (.head _)
       replace hib := hib.only o288 (.head _)
       replace hcb := hcb.only o288 (.head _)
       replace hnu := hnu.only o288 (.head _)
       replace hiu := hiu.only o288 (.head _)
       replace hcu := hcu.only o288 (.head _)
       replace hnz := hnz.only o288 (.head _)
       replace hiz := hiz.only o288 (.head _)
       replace hcz := hcz.only o288 (.head _)
       replace hB := o288.below hB l286
       replace hL := LL.only hL o288
       refine WL.val (dx_assign rfl rfl) rfl rfl ?_
       refine WL.nil ?_
       refine hK269 ?_
       refine WC.seq fun K290 hK290 => ?_
       refine WC.region ?_
       refine WL.val (dx_move rfl rfl) rfl rfl ?_
       refine WL.val (dx_not rfl rfl) rfl rfl ?_
       refine WL.val (dx_move rfl rfl) rfl rfl ?_
       refine WL.val (dx_loadN rfl ty_agg_26_5 rfl k268.range rfl) rfl rfl ?_
       refine WL.get (dx_cv rfl Try.func15 rfl rfl rfl (rightE_v (n + 1) u true W287 _ hL (show RdT (n + 1 + 1) (W271.heap.size :: W251.heap.size :: W234.heap.size :: W216.heap.size :: W199.heap.size :: W79.heap.size :: W62.heap.size :: W23.heap.size :: W7.heap.size :: W2.heap.size :: w.heap.size :: L) W287 u from ⟨hnu, hiu, hcu⟩) hzu hru)) rfl rfl ?_
       rintro _ W292 ⟨rfl, b291⟩
       replace hnp := hnp.below b291
       replace hip := hip.below b291
       replace hcp := hcp.below b291
       replace hnq := hnq.below b291
       replace hiq := hiq.below b291
       replace hcq := hcq.below b291
       replace hnt := hnt.below b291
       replace hit := hit.below b291
       replace hct := hct.below b291
       replace hny := hny.below b291
       replace hiy := hiy.below b291
       replace hcy := hcy.below b291
       replace hna := hna.below b291
       replace hia := hia.below b291
       replace hca := hca.below b291
       replace hnb := hnb.below b291
       replace hib := hib.below b291
       replace hcb := hcb.below b291
       replace hnu := hnu.below b291
       replace hiu := hiu.below b291
       replace hcu := hcu.below b291
       replace hnz := hnz.below b291
       replace hiz := hiz.below b291
       replace hcz := hcz.below b291
       replace k3 := k3.below b291
       replace k8 := k8.below b291
       replace k14 := k14.below b291
       replace k28 := k28.below b291
       replace k74 := k74.below b291
       replace k92 := k92.below b291
       replace k213 := k213.below b291
       replace k231 := k231.below b291
       replace k237 := k237.below b291
       replace k268 := k268.below b291
       replace k289 := k289.below b291
       replace hB := below_then hB b291
       replace hL := LL.below hL b291
       refine WL.val (dx_pick rfl rfl rfl) rfl rfl ?_
       refine WL.val (dx_assign rfl rfl) rfl rfl ?_
       refine WL.nil ?_
       refine hK290 ?_
       refine WC.ret fun a_ ha_ => ?_
       exact hQ (cv_ret1 rfl (.tmp rfl) rfl hB ha_)
     ·
      replace c101 := bnot_f c101
      replace c101 := of_decide_eq_true c101
      refine WC.skip ?_
      refine hK99 ?_
      refine WC.seq fun K293 hK293 => ?_
      refine WC.region ?_
      refine WL.val (dx_loadN rfl ty_agg_26_5 rfl k74.range rfl) rfl rfl ?_
      refine WL.val (dx_idxA (o1 := 0) rfl Try.underlying46 ty_size_9_1 rfl rfl (by omega) rfl) rfl rfl ?_
      refine WL.val (dx_load rfl ty_one_9 rfl (k14.cell (k := 0) rfl)) rfl rfl ?_
      refine WL.get (dx_lit1 (r := [.string a_]) rfl ty_ap_23 (by decide) (by decide) rfl rfl rfl) rfl rfl ?_
      rintro u298 W294 ⟨k295, b296, z297⟩
      have l305 := hB.size
      replace hnp := hnp.more b296 (Nat.le_refl _)
      replace hip := hip.more b296 (Nat.le_refl _)
      replace hcp := hcp.more b296 (Nat.le_refl _)
      replace hnq := hnq.more b296 (Nat.le_refl _)
      replace hiq := hiq.more b296 (Nat.le_refl _)
      replace hcq := hcq.more b296 (Nat.le_refl _)
      replace hnt := hnt.more b296 (Nat.le_refl _)
      replace hit := hit.more b296 (Nat.le_refl _)
      replace hct := hct.more b296 (Nat.le_refl _)
      replace hny := hny.more b296 (Nat.le_refl _)
      replace hiy := hiy.more b296 (Nat.le_refl _)
      replace hcy := hcy.more b296 (Nat.le_refl _)
      replace k3 := k3.below b296
      replace k8 := k8.below b296
      replace k14 := k14.below b296
      replace k28 := k28.below b296
      replace k74 := k74.below b296
      replace k92 := k92.below b296
      replace hB := below_then hB b296
      replace hL := LL.more hL z297
      refine WL.get (dx_cv rfl Try.func26 rfl rfl rfl (jWithout_v (n + 1) t [a_] _ W294 _ hL (show RdT (n + 1 + 1) (W98.heap.size :: W79.heap.size :: W62.heap.size :: W23.heap.size :: W7.heap.size :: W2.heap.size :: w.heap.size :: L) W294 t from ⟨hnt, hit, hct⟩) (k295.rd (L := []) (by simp)) hzt (by simp))) rfl rfl ?_
      rintro _ W307 ⟨⟨u, rfl, hue, hut⟩, b306⟩
      replace hnp := hnp.below b306
      replace hip := hip.below b306
      replace hcp := hcp.below b306
      replace hnq := hnq.below b306
      replace hiq := hiq.below b306
      replace hcq := hcq.below b306
      replace hnt := hnt.below b306
      replace hit := hit.below b306
      replace hct := hct.below b306
      replace hny := hny.below b306
      replace hiy := hiy.below b306
      replace hcy := hcy.below b306
      replace k3 := k3.below b306
      replace k8 := k8.below b306
      replace k14 := k14.below b306
      replace k28 := k28.below b306
      replace k74 := k74.below b306
      replace k92 := k92.below b306
      replace k295 := k295.below b306
      replace hB := below_then hB b306
      replace hL := LL.below hL b306
      obtain ⟨hnu, hiu, hcu⟩ := hut
      replace hcu : RdTs (n + 1) (W98.heap.size :: W79.heap.size :: W62.heap.size :: W23.heap.size :: W7.heap.size :: W2.heap.size :: w.heap.size :: L) W307 u.items := hcu
      have hzu : SzT 1000000 (n + 1 + 1) u := szT_J.2 (by rw [hue]; exact without_sz (szT_J.1 hzt))
      have hru : rightJ upB 12 u.er = true := by rw [hue]; exact without_right hkt hrt
      refine WL.get (dx_alloc rfl ty_zero_26 rfl) rfl rfl ?_
      rintro _ W308 ⟨rfl, k309, b310, z311⟩
      have n312 : w.heap.size ≠ W307.heap.size := Nat.ne_of_lt k3.lt
      have n313 : W2.heap.size ≠ W307.heap.size := Nat.ne_of_lt k8.lt
      have n314 : W7.heap.size ≠ W307.heap.size := Nat.ne_of_lt k14.lt
      have n315 : W23.heap.size ≠ W307.heap.size := Nat.ne_of_lt k28.lt
      have n316 : W62.heap.size ≠ W307.heap.size := Nat.ne_of_lt k74.lt
      have n317 : W79.heap.size ≠ W307.heap.size := Nat.ne_of_lt k92.lt
      have n318 : W98.heap.size ≠ W307.heap.size := Nat.ne_of_lt k295.lt
      have l319 := hB.size
      replace hnp := hnp.more b310 (Nat.le_refl _)
      replace hip := hip.more b310 (Nat.le_refl _)
      replace hcp := hcp.more b310 (Nat.le_refl _)
      replace hnq := hnq.more b310 (Nat.le_refl _)
      replace hiq := hiq.more b310 (Nat.le_refl _)
      replace hcq := hcq.more b310 (Nat.le_refl _)
      replace hnt := hnt.more b310 (Nat.le_refl _)
      replace hit := hit.more b310 (Nat.le_refl _)
      replace hct := hct.more b310 (Nat.le_refl _)
      replace hny := hny.more b310 (Nat.le_refl _)
      replace hiy := hiy.more b310 (Nat.le_refl _)
      replace hcy := hcy.more b310 (Nat.le_refl _)
      replace hnu := hnu.more b310 (Nat.le_refl _)
      replace hiu := hiu.more b310 (Nat.le_refl _)
      replace hcu := hcu.more b310 (Nat.le_refl _)
      replace k3 := k3.below b310
      replace k8 := k8.below b310
      replace k14 := k14.below b310
      replace k28 := k28.below b310
      replace k74 := k74.below b310
      replace k92 := k92.below b310
      replace k295 := k295.below b310
      replace hB := below_then hB b310
      replace hL := LL.more hL z311
      refine WL.do (dx_store (cs' := [.int .i64 u.kind, .int .i64 u.num, .string u.text, u.nv, u.iv]) (vs := [.int .i64 u.kind, .int .i64 u.num, .string u.text, u.nv, u.iv]) rfl ty_size_26_5 rfl rfl rfl (oc_cons rfl (oc_cons rfl (oc_cons rfl (oc_cons hnu.one (oc_cons hiu.one oc_nil))))) k309 rfl (Nat.le_of_ble_eq_true rfl) rfl) rfl ?_
      rintro _ W320 ⟨k322, o321⟩
      replace k3 := k3.other o321 n312
      replace k8 := k8.other o321 n313
      replace k14 := k14.other o321 n314
      replace k28 := k28.other o321 n315
      replace k74 := k74.other o321 n316
      replace k92 := k92.other o321 n317
      replace k295 := k295.other o321 n318
      clear k309
      replace hnp := hnp.only o321 (.head _)
      replace hip := hip.only o321 (.head _)
      replace hcp := hcp.only o321 (.head _)
      replace hnq := hnq.only o321 (.head _)
      replace hiq := hiq.only o321 (.head _)
      replace hcq := hcq.only o321 (.head _)
      replace hnt := hnt.only o321 (.head _)
      replace hit := hit.only o321 (.head _)
      replace hct := hct.only o321 (.head _)
      replace hny := hny.only o321 (.head _)
      replace hiy := hiy.only o321 (.head _)
      replace hcy := hcy.only o321 (.head _)
      replace hnu := hnu.only o321 (.head _)
      replace hiu := hiu.only o321 (.head _)
      replace hcu := hcu.only o321 (.head _)
      replace hB := o321.below hB l319
      replace hL := LL.only hL o321
      refine WL.nil ?_
      refine hK293 ?_
      refine WC.seq fun K323 hK323 => ?_
      refine WC.region ?_
      refine WL.val (dx_loadN rfl ty_agg_26_5 rfl k322.range rfl) rfl rfl ?_
      refine WL.val (dx_idxA (o1 := 0) rfl Try.underlying46 ty_size_9_1 rfl rfl (by omega) rfl) rfl rfl ?_
      refine WL.val (dx_load rfl ty_one_9 rfl (k14.cell (k := 0) rfl)) rfl rfl ?_
      refine WL.get (dx_cv rfl Try.func17 rfl rfl rfl (getE_v (n + 1) u a_ _ false W320 _ hL (show RdT (n + 1 + 1) (W307.heap.size :: W98.heap.size :: W79.heap.size :: W62.heap.size :: W23.heap.size :: W7.heap.size :: W2.heap.size :: w.heap.size :: L) W320 u from ⟨hnu, hiu, hcu⟩) (by rw [hue]; exact without_get hkt hrt (.head _)))) rfl rfl ?_
      rintro _ W325 ⟨⟨z, rfl, hze, hzt⟩, b324⟩
      replace hnp := hnp.below b324
      replace hip := hip.below b324
      replace hcp := hcp.below b324
      replace hnq := hnq.below b324
      replace hiq := hiq.below b324
      replace hcq := hcq.below b324
      replace hnt := hnt.below b324
      replace hit := hit.below b324
      replace hct := hct.below b324
      replace hny := hny.below b324
      replace hiy := hiy.below b324
      replace hcy := hcy.below b324
      replace hnu := hnu.below b324
      replace hiu := hiu.below b324
      replace hcu := hcu.below b324
      replace k3 := k3.below b324
      replace k8 := k8.below b324
      replace k14 := k14.below b324
      replace k28 := k28.below b324
      replace k74 := k74.below b324
      replace k92 := k92.below b324
      replace k295 := k295.below b324
      replace k322 := k322.below b324
      replace hB := below_then hB b324
      replace hL := LL.below hL b324
      obtain ⟨hnz, hiz, hcz⟩ := hzt
      replace hcz : RdTs (n + 1) (W307.heap.size :: W98.heap.size :: W79.heap.size :: W62.heap.size :: W23.heap.size :: W7.heap.size :: W2.heap.size :: w.heap.size :: L) W325 z.items := hcz
      refine WL.val (dx_move rfl rfl) rfl rfl ?_
      refine WL.val (dx_extract rfl rfl rfl) rfl rfl ?_
      refine WL.val (dx_extract rfl rfl rfl) rfl rfl ?_
      refine WL.get (dx_alloc rfl ty_zero_26 rfl) rfl rfl ?_
      rintro _ W326 ⟨rfl, k327, b328, z329⟩
      have n330 : w.heap.size ≠ W325.heap.size := Nat.ne_of_lt k3.lt
      have n331 : W2.heap.size ≠ W325.heap.size := Nat.ne_of_lt k8.lt
      have n332 : W7.heap.size ≠ W325.heap.size := Nat.ne_of_lt k14.lt
      have n333 : W23.heap.size ≠ W325.heap.size := Nat.ne_of_lt k28.lt
      have n334 : W62.heap.size ≠ W325.heap.size := Nat.ne_of_lt k74.lt
      have n335 : W79.heap.size ≠ W325.heap.size := Nat.ne_of_lt k92.lt
      have n336 : W98.heap.size ≠ W325.heap.size := Nat.ne_of_lt k295.lt
      have n337 : W307.heap.size ≠ W325.heap.size := Nat.ne_of_lt k322.lt
      have l338 := hB.size
      replace hnp := hnp.more b328 (Nat.le_refl _)
      replace hip := hip.more b328 (Nat.le_refl _)
      replace hcp := hcp.more b328 (Nat.le_refl _)
      replace hnq := hnq.more b328 (Nat.le_refl _)
      replace hiq := hiq.more b328 (Nat.le_refl _)
      replace hcq := hcq.more b328 (Nat.le_refl _)
      replace hnt := hnt.more b328 (Nat.le_refl _)
      replace hit := hit.more b328 (Nat.le_refl _)
      replace hct := hct.more b328 (Nat.le_refl _)
      replace hny := hny.more b328 (Nat.le_refl _)
      replace hiy := hiy.more b328 (Nat.le_refl _)
      replace hcy := hcy.more b328 (Nat.le_refl _)
      replace hnu := hnu.more b328 (Nat.le_refl _)
      replace hiu := hiu.more b328 (Nat.le_refl _)
      replace hcu := hcu.more b328 (Nat.le_refl _)
      replace hnz := hnz.more b328 (Nat.le_refl _)
      replace hiz := hiz.more b328 (Nat.le_refl _)
      replace hcz := hcz.more b328 (Nat.le_refl _)
      replace k3 := k3.below b328
      replace k8 := k8.below b328
      replace k14 := k14.below b328
      replace k28 := k28.below b328
      replace k74 := k74.below b328
      replace k92 := k92.below b328
      replace k295 := k295.below b328
      replace k322 := k322.below b328
      replace hB := below_then hB b328
      replace hL := LL.more hL z329
      refine WL.do (dx_store (cs' := [.int .i64 z.kind, .int .i64 z.num, .string z.text, z.nv, z.iv]) (vs := [.int .i64 z.kind, .int .i64 z.num, .string z.text, z.nv, z.iv]) rfl ty_size_26_5 rfl rfl rfl (oc_cons rfl (oc_cons rfl (oc_cons rfl (oc_cons hnz.one (oc_cons hiz.one oc_nil))))) k327 rfl (Nat.le_of_ble_eq_true rfl) rfl) rfl ?_
      rintro _ W339 ⟨k341, o340⟩
      replace k3 := k3.other o340 n330
      replace k8 := k8.other o340 n331
      replace k14 := k14.other o340 n332
      replace k28 := k28.other o340 n333
      replace k74 := k74.other o340 n334
      replace k92 := k92.other o340 n335
      replace k295 := k295.other o340 n336
      replace k322 := k322.other o340 n337
      clear k327
      replace hnp := hnp.only o340 (.head _)
      replace hip := hip.only o340 (.head _)
      replace hcp := hcp.only o340 (.head _)
      replace hnq := hnq.only o340 (.head _)
      replace hiq := hiq.only o340 (.head _)
      replace hcq := hcq.only o340 (.head _)
      replace hnt := hnt.only o340 (.head _)
      replace hit := hit.only o340 (.head _)
      replace hct := hct.only o340 (.head _)
      replace hny := hny.only o340 (.head _)
      replace hiy := hiy.only o340 (.head _)
      replace hcy := hcy.only o340 (.head _)
      replace hnu := hnu.only o340 (.head _)
      replace hiu := hiu.only o340 (.head _)
      replace hcu := hcu.only o340 (.head _)
      replace hnz := hnz.only o340 (.head _)
      replace hiz := hiz.only o340 (.head _)
      replace hcz := hcz.only o340 (.head _)
      replace hB := o340.below hB l338
      replace hL := LL.only hL o340
      refine WL.val (dx_assign rfl rfl) rfl rfl ?_
      refine WL.nil ?_
      refine hK323 ?_
      refine WC.seq fun K342 hK342 => ?_
      refine WC.region ?_
      refine WL.val (dx_move rfl rfl) rfl rfl ?_
      refine WL.val (dx_not rfl rfl) rfl rfl ?_
      refine WL.val (dx_move rfl rfl) rfl rfl ?_
      refine WL.val (dx_loadN rfl ty_agg_26_5 rfl k322.range rfl) rfl rfl ?_
      refine WL.get (dx_cv rfl Try.func15 rfl rfl rfl (rightE_v (n + 1) u true W339 _ hL (show RdT (n + 1 + 1) (W325.heap.size :: W307.heap.size :: W98.heap.size :: W79.heap.size :: W62.heap.size :: W23.heap.size :: W7.heap.size :: W2.heap.size :: w.heap.size :: L) W339 u from ⟨hnu, hiu, hcu⟩) hzu hru)) rfl rfl ?_
      rintro _ W344 ⟨rfl, b343⟩
      replace hnp := hnp.below b343
      replace hip := hip.below b343
      replace hcp := hcp.below b343
      replace hnq := hnq.below b343
      replace hiq := hiq.below b343
      replace hcq := hcq.below b343
      replace hnt := hnt.below b343
      replace hit := hit.below b343
      replace hct := hct.below b343
      replace hny := hny.below b343
      replace hiy := hiy.below b343
      replace hcy := hcy.below b343
      replace hnu := hnu.below b343
      replace hiu := hiu.below b343
      replace hcu := hcu.below b343
      replace hnz := hnz.below b343
      replace hiz := hiz.below b343
      replace hcz := hcz.below b343
      replace k3 := k3.below b343
      replace k8 := k8.below b343
      replace k14 := k14.below b343
      replace k28 := k28.below b343
      replace k74 := k74.below b343
      replace k92 := k92.below b343
      replace k295 := k295.below b343
      replace k322 := k322.below b343
      replace k341 := k341.below b343
      replace hB := below_then hB b343
      replace hL := LL.below hL b343
      refine WL.val (dx_pick rfl rfl rfl) rfl rfl ?_
      refine WL.val (dx_assign rfl rfl) rfl rfl ?_
      refine WL.nil ?_
      refine hK342 ?_
      refine WC.ret fun a_ ha_ => ?_
      exact hQ (cv_ret1 rfl (.tmp rfl) rfl hB ha_)

end Go.Proofs.Ytpinidlfcifeeaa

/- A law of layer 16, walked. -/
import Derived.Test.YthllidchoodofaaGreatDoorKE
namespace Go.Proofs.YthllidchoodofaaGreatDoor
open Go.RowKit
set_option linter.unusedVariables false
set_option linter.unusedSimpArgs false
set_option maxRecDepth 8000

theorem small_of {xs : List SesX} (h : SzZ xs) : smallZ xs := fun b hb => (h b hb).2.2
theorem small_req {xs : List SesX} {wt : SesX} (h : smallZ xs) (hw : wt.whr.size ≤ 140737488355328) : smallZ (reqL xs wt) := by
  have ho : ∀ b ∈ opnZ xs wt, b.whr.size ≤ 140737488355328 := fun b hb => h b ((prune_sub xs wt.since).mem hb)
  unfold reqL
  split
  · split
    · intro b hb
      rcases List.mem_or_eq_of_mem_set hb with hb | rfl
      · exact ho b hb
      · show (hitZ xs wt).whr.size ≤ _
        unfold hitZ
        cases hg : (opnZ xs wt)[(smAt xs wt).toNat]? with
        | none => show (ByteArray.mk #[]).size ≤ _; decide
        | some a => exact ho a (List.mem_of_getElem? hg)
    · intro b hb
      rcases List.mem_append.1 hb with hb | hb
      · exact ho b (List.mem_of_mem_take hb)
      · rcases List.mem_cons.1 hb with rfl | hb
        · exact hw
        · exact ho b (List.mem_of_mem_drop hb)
  · exact h
set_option maxHeartbeats 1000000 in
theorem sessionSubmits_v (xs : List SesX) (now : Int) (wt : SesX) (sv : Value) (w : World) (L : List Nat) (hL : LL L w) (h1 : RdF 10 L w sv (xs.map encZ)) (hM : MaxL L w)  (hz : SzZ xs) : CV Tryz.prog 3 [sv, .int .i64 now, .agg #[.int .i64 wt.id, .string wt.sec, .string wt.med, .string wt.whr, .string wt.tok, .int .i64 wt.att, .int .i64 wt.since, .int .i64 wt.wrong, .bool wt.shown, .int .i64 wt.sat]] w fun v W => v = .bool true := by
  refine cv_enter (N := 111) (f := [(0, sv), (1, .int .i64 now), (2, .agg #[.int .i64 wt.id, .string wt.sec, .string wt.med, .string wt.whr, .string wt.tok, .int .i64 wt.att, .int .i64 wt.since, .int .i64 wt.wrong, .bool wt.shown, .int .i64 wt.sat])]) Tryz.func3 rfl rfl rfl rfl fun Q hQ hE => ?_
  have hB := Below.refl w.heap.size w
  have h1m : xs.length ≤ maxLen := by have := h1.len; rwa [List.length_map] at this
  unfold maxLen at h1m
  refine WC.seq fun K1 hK1 => ?_
  have hsm := small_of hz
  refine WC.region ?_
  refine WL.get (dx_box rfl rfl rfl) rfl rfl ?_
  rintro _ W2 ⟨rfl, k3, b4, z5⟩
  have l6 := hB.size
  replace h1 := h1.more b4 (Nat.le_refl _)
  replace hM := hM.more b4 (Nat.le_refl _)
  replace hB := below_then hB b4
  replace hL := LL.more hL z5
  refine WL.val (dx_assign rfl rfl) rfl rfl ?_
  refine WL.nil ?_
  refine hK1 ?_
  refine WC.seq fun K7 hK7 => ?_
  refine WC.seq fun K8 hK8 => ?_
  refine WC.region ?_
  refine WL.get (dx_cv rfl Tryz.func4 rfl rfl rfl (alive16_v W2 _ hL hM)) rfl rfl ?_
  rintro _ W10 ⟨rfl, b9⟩
  replace h1 := h1.below b9
  replace hM := hM.below b9
  replace k3 := k3.below b9
  replace hB := below_then hB b9
  replace hL := LL.below hL b9
  refine WL.val (dx_not rfl rfl) rfl rfl ?_
  refine WL.nil ?_
  refine hK8 ?_
  refine WC.condF rfl ?_
  refine WC.skip ?_
  refine hK7 ?_
  refine WC.seq fun K11 hK11 => ?_
  refine WC.seq fun K12 hK12 => ?_
  refine WC.region ?_
  refine WL.val (dx_move rfl rfl) rfl rfl ?_
  refine WL.get (dx_cv rfl Tryz.func5 rfl rfl rfl (great16_v xs _ W10 _ hL h1)) rfl rfl ?_
  rintro _ W14 ⟨rfl, b13⟩
  replace h1 := h1.below b13
  replace hM := hM.below b13
  replace k3 := k3.below b13
  replace hB := below_then hB b13
  replace hL := LL.below hL b13
  refine WL.nil ?_
  refine hK12 ?_
  refine WC.cond rfl (fun c15 => ?_) (fun c15 => ?_)
  ·
    replace c15 := of_decide_eq_true c15
    refine WC.seq fun K16 hK16 => ?_
    refine WC.region ?_
    refine WL.val (dx_assign rfl rfl) rfl rfl ?_
    refine WL.nil ?_
    refine hK16 ?_
    refine WC.ret fun a_ ha_ => ?_
    exact hQ (cv_ret1 rfl (.tmp rfl) rfl hB ha_)
  ·
    replace c15 := of_decide_eq_false c15
    refine WC.skip ?_
    refine hK11 ?_
    refine WC.seq fun K17 hK17 => ?_
    refine WC.region ?_
    have hLs := hL
    refine WL.get (dx_lit0E rfl ty_ap_22 (by decide)) rfl rfl ?_
    rintro u18 W19 ⟨b20, hE⟩
    replace h1 := h1.below b20
    replace hM := hM.below b20
    replace k3 := k3.below b20
    replace hB := below_then hB b20
    replace hL := LL.below hL b20
    refine WL.val (dx_move rfl rfl) rfl rfl ?_
    refine WL.get (dx_apN rfl ty_ap_22 rfl rfl hE h1 (oc_rowsX oc_Z xs) (by rw [List.length_map]; unfold maxLen; omega) (by rw [List.length_map]; omega) b20.size) rfl rfl ?_
    rintro u21 W22 ⟨b23, hN⟩
    replace h1 := h1.below b23
    replace hM := hM.below b23
    replace k3 := k3.below b23
    replace hB := below_then hB b23
    replace hL := LL.below hL b23
    have h5 := hN.rd (fun x hx => hLs x hx)
    replace hE := trivial
    replace hN := trivial
    refine WL.val (dx_assign rfl rfl) rfl rfl ?_
    refine WL.nil ?_
    refine hK17 ?_
    refine WC.seq fun K24 hK24 => ?_
    refine WC.region ?_
    refine WL.val (dx_move rfl rfl) rfl rfl ?_
    refine WL.val (dx_move rfl rfl) rfl rfl ?_
    refine WL.val (dx_loadN rfl ty_agg_26_10 rfl k3.range rfl) rfl rfl ?_
    refine WL.get (dx_cv rfl Tryz.func6 rfl rfl rfl (submit_v xs now wt _ W22 _ hL h5 hM hsm)) rfl rfl ?_
    rintro _ W28 ⟨⟨u25, rfl, j26⟩, b27⟩
    replace h1 := h1.below b27
    replace hM := hM.below b27
    replace h5 := h5.below b27
    replace k3 := k3.below b27
    replace hB := below_then hB b27
    replace hL := LL.below hL b27
    refine WL.val (dx_move rfl rfl) rfl rfl ?_
    refine WL.val (dx_extract rfl rfl rfl) rfl rfl ?_
    refine WL.val (dx_extract rfl rfl rfl) rfl rfl ?_
    refine WL.val (dx_assign rfl rfl) rfl rfl ?_
    refine WL.val (dx_assign rfl rfl) rfl rfl ?_
    refine WL.nil ?_
    refine hK24 ?_
    refine WC.seq fun K29 hK29 => ?_
    refine WC.region ?_
    refine WL.val (dx_move rfl rfl) rfl rfl ?_
    refine WL.val (dx_move rfl rfl) rfl rfl ?_
    refine WL.val (dx_loadN rfl ty_agg_26_10 rfl k3.range rfl) rfl rfl ?_
    refine WL.get (dx_cv rfl Tryz.func7 rfl rfl rfl (refSubmit_v xs now wt _ W28 _ hL h1 hz)) rfl rfl ?_
    rintro _ W33 ⟨⟨u30, rfl, j31⟩, b32⟩
    replace h1 := h1.below b32
    replace hM := hM.below b32
    replace h5 := h5.below b32
    replace j26 := j26.below b32
    replace k3 := k3.below b32
    replace hB := below_then hB b32
    replace hL := LL.below hL b32
    refine WL.val (dx_move rfl rfl) rfl rfl ?_
    refine WL.val (dx_extract rfl rfl rfl) rfl rfl ?_
    refine WL.val (dx_extract rfl rfl rfl) rfl rfl ?_
    refine WL.val (dx_assign rfl rfl) rfl rfl ?_
    refine WL.val (dx_assign rfl rfl) rfl rfl ?_
    refine WL.nil ?_
    refine hK29 ?_
    refine WC.seq fun K34 hK34 => ?_
    refine WC.region ?_
    refine WL.val (dx_move rfl rfl) rfl rfl ?_
    refine WL.val (dx_move rfl rfl) rfl rfl ?_
    refine WL.val (dx_loadN rfl ty_agg_26_10 rfl k3.range rfl) rfl rfl ?_
    refine WL.get (dx_cv rfl Tryz.func8 rfl rfl rfl (shown_v xs now wt _ W33 _ hL h5 hM hsm)) rfl rfl ?_
    rintro _ W36 ⟨rfl, b35⟩
    replace h1 := h1.below b35
    replace hM := hM.below b35
    replace h5 := h5.below b35
    replace j26 := j26.below b35
    replace j31 := j31.below b35
    replace k3 := k3.below b35
    replace hB := below_then hB b35
    replace hL := LL.below hL b35
    refine WL.val (dx_move rfl rfl) rfl rfl ?_
    refine WL.val (dx_extract rfl rfl rfl) rfl rfl ?_
    refine WL.val (dx_extract rfl rfl rfl) rfl rfl ?_
    refine WL.get (dx_alloc rfl ty_zero_24 rfl) rfl rfl ?_
    rintro _ W37 ⟨rfl, k38, b39, z40⟩
    have n41 : w.heap.size ≠ W36.heap.size := Nat.ne_of_lt k3.lt
    have l42 := hB.size
    replace h1 := h1.more b39 (Nat.le_refl _)
    replace hM := hM.more b39 (Nat.le_refl _)
    replace h5 := h5.more b39 (Nat.le_refl _)
    replace j26 := j26.more b39 (Nat.le_refl _)
    replace j31 := j31.more b39 (Nat.le_refl _)
    replace k3 := k3.below b39
    replace hB := below_then hB b39
    replace hL := LL.more hL z40
    refine WL.do (dx_store (cs' := [.string (shM xs now wt), .string (shW xs now wt)]) (vs := [.string (shM xs now wt), .string (shW xs now wt)]) rfl ty_size_24_2 rfl rfl rfl (oc_cons rfl (oc_cons rfl oc_nil)) k38 rfl (Nat.le_of_ble_eq_true rfl) rfl) rfl ?_
    rintro _ W43 ⟨k45, o44⟩
    replace k3 := k3.other o44 n41
    clear k38
    replace h1 := h1.only o44 (.head _)
    replace hM := hM.only o44 (.head _)
    replace h5 := h5.only o44 (.head _)
    replace j26 := j26.only o44 (.head _)
    replace j31 := j31.only o44 (.head _)
    replace hB := o44.below hB l42
    replace hL := LL.only hL o44
    refine WL.val (dx_assign rfl rfl) rfl rfl ?_
    refine WL.nil ?_
    refine hK34 ?_
    refine WC.seq fun K46 hK46 => ?_
    refine WC.region ?_
    refine WL.val (dx_move rfl rfl) rfl rfl ?_
    refine WL.val (dx_move rfl rfl) rfl rfl ?_
    refine WL.val (dx_loadN rfl ty_agg_26_10 rfl k3.range rfl) rfl rfl ?_
    refine WL.get (dx_cv rfl Tryz.func9 rfl rfl rfl (refShown_v xs now wt _ W43 _ hL h1 hz)) rfl rfl ?_
    rintro _ W48 ⟨rfl, b47⟩
    replace h1 := h1.below b47
    replace hM := hM.below b47
    replace h5 := h5.below b47
    replace j26 := j26.below b47
    replace j31 := j31.below b47
    replace k3 := k3.below b47
    replace k45 := k45.below b47
    replace hB := below_then hB b47
    replace hL := LL.below hL b47
    refine WL.val (dx_move rfl rfl) rfl rfl ?_
    refine WL.val (dx_extract rfl rfl rfl) rfl rfl ?_
    refine WL.val (dx_extract rfl rfl rfl) rfl rfl ?_
    refine WL.get (dx_alloc rfl ty_zero_24 rfl) rfl rfl ?_
    rintro _ W49 ⟨rfl, k50, b51, z52⟩
    have n53 : w.heap.size ≠ W48.heap.size := Nat.ne_of_lt k3.lt
    have n54 : W36.heap.size ≠ W48.heap.size := Nat.ne_of_lt k45.lt
    have l55 := hB.size
    replace h1 := h1.more b51 (Nat.le_refl _)
    replace hM := hM.more b51 (Nat.le_refl _)
    replace h5 := h5.more b51 (Nat.le_refl _)
    replace j26 := j26.more b51 (Nat.le_refl _)
    replace j31 := j31.more b51 (Nat.le_refl _)
    replace k3 := k3.below b51
    replace k45 := k45.below b51
    replace hB := below_then hB b51
    replace hL := LL.more hL z52
    refine WL.do (dx_store (cs' := [.string (shM xs now wt), .string (shW xs now wt)]) (vs := [.string (shM xs now wt), .string (shW xs now wt)]) rfl ty_size_24_2 rfl rfl rfl (oc_cons rfl (oc_cons rfl oc_nil)) k50 rfl (Nat.le_of_ble_eq_true rfl) rfl) rfl ?_
    rintro _ W56 ⟨k58, o57⟩
    replace k3 := k3.other o57 n53
    replace k45 := k45.other o57 n54
    clear k50
    replace h1 := h1.only o57 (.head _)
    replace hM := hM.only o57 (.head _)
    replace h5 := h5.only o57 (.head _)
    replace j26 := j26.only o57 (.head _)
    replace j31 := j31.only o57 (.head _)
    replace hB := o57.below hB l55
    replace hL := LL.only hL o57
    refine WL.val (dx_assign rfl rfl) rfl rfl ?_
    refine WL.nil ?_
    refine hK46 ?_
    refine WC.seq fun K59 hK59 => ?_
    obtain ⟨fr, hfr⟩ : ∃ r, r = findZ xs wt.id := ⟨_, rfl⟩
    refine WC.region ?_
    refine WL.val (dx_move rfl rfl) rfl rfl ?_
    refine WL.val (dx_fld (o1 := 0) rfl ty_fld_26_0_0 rfl rfl) rfl rfl ?_
    refine WL.val (dx_load rfl ty_one_3 rfl (k3.cell (k := 0) rfl)) rfl rfl ?_
    refine WL.get (dx_cv rfl Tryz.func10 rfl rfl rfl ((by have := findZ_v xs wt.id _ W56 (W48.heap.size :: W36.heap.size :: w.heap.size :: L) hL h5 hM hsm; rw [← hfr] at this; exact this))) rfl rfl ?_
    rintro _ W61 ⟨rfl, b60⟩
    replace h1 := h1.below b60
    replace hM := hM.below b60
    replace h5 := h5.below b60
    replace j26 := j26.below b60
    replace j31 := j31.below b60
    replace k3 := k3.below b60
    replace k45 := k45.below b60
    replace k58 := k58.below b60
    replace hB := below_then hB b60
    replace hL := LL.below hL b60
    refine WL.val (dx_move rfl rfl) rfl rfl ?_
    refine WL.val (dx_extract rfl rfl rfl) rfl rfl ?_
    refine WL.val (dx_extract rfl rfl rfl) rfl rfl ?_
    refine WL.get (dx_alloc rfl ty_zero_26 rfl) rfl rfl ?_
    rintro _ W62 ⟨rfl, k63, b64, z65⟩
    have n66 : w.heap.size ≠ W61.heap.size := Nat.ne_of_lt k3.lt
    have n67 : W36.heap.size ≠ W61.heap.size := Nat.ne_of_lt k45.lt
    have n68 : W48.heap.size ≠ W61.heap.size := Nat.ne_of_lt k58.lt
    have l69 := hB.size
    replace h1 := h1.more b64 (Nat.le_refl _)
    replace hM := hM.more b64 (Nat.le_refl _)
    replace h5 := h5.more b64 (Nat.le_refl _)
    replace j26 := j26.more b64 (Nat.le_refl _)
    replace j31 := j31.more b64 (Nat.le_refl _)
    replace k3 := k3.below b64
    replace k45 := k45.below b64
    replace k58 := k58.below b64
    replace hB := below_then hB b64
    replace hL := LL.more hL z65
    refine WL.do (dx_store (cs' := [.int .i64 fr.1.id, .string fr.1.sec, .string fr.1.med, .string fr.1.whr, .string fr.1.tok, .int .i64 fr.1.att, .int .i64 fr.1.since, .int .i64 fr.1.wrong, .bool fr.1.shown, .int .i64 fr.1.sat]) (vs := [.int .i64 fr.1.id, .string fr.1.sec, .string fr.1.med, .string fr.1.whr, .string fr.1.tok, .int .i64 fr.1.att, .int .i64 fr.1.since, .int .i64 fr.1.wrong, .bool fr.1.shown, .int .i64 fr.1.sat]) rfl ty_size_26_10 rfl rfl rfl (oc_cons rfl (oc_cons rfl (oc_cons rfl (oc_cons rfl (oc_cons rfl (oc_cons rfl (oc_cons rfl (oc_cons rfl (oc_cons rfl (oc_cons rfl oc_nil)))))))))) k63 rfl (Nat.le_of_ble_eq_true rfl) rfl) rfl ?_
    rintro _ W70 ⟨k72, o71⟩
    replace k3 := k3.other o71 n66
    replace k45 := k45.other o71 n67
    replace k58 := k58.other o71 n68
    clear k63
    replace h1 := h1.only o71 (.head _)
    replace hM := hM.only o71 (.head _)
    replace h5 := h5.only o71 (.head _)
    replace j26 := j26.only o71 (.head _)
    replace j31 := j31.only o71 (.head _)
    replace hB := o71.below hB l69
    replace hL := LL.only hL o71
    refine WL.val (dx_assign rfl rfl) rfl rfl ?_
    refine WL.nil ?_
    refine hK59 ?_
    refine WC.seq fun K73 hK73 => ?_
    refine WC.region ?_
    refine WL.val (dx_move rfl rfl) rfl rfl ?_
    refine WL.val (dx_fld (o1 := 0) rfl ty_fld_26_0_0 rfl rfl) rfl rfl ?_
    refine WL.val (dx_load rfl ty_one_3 rfl (k3.cell (k := 0) rfl)) rfl rfl ?_
    refine WL.get (dx_cv rfl Tryz.func11 rfl rfl rfl ((by have := refFindZ_v xs wt.id _ W70 (W61.heap.size :: W48.heap.size :: W36.heap.size :: w.heap.size :: L) hL h1 hz; rw [← hfr] at this; exact this))) rfl rfl ?_
    rintro _ W75 ⟨rfl, b74⟩
    replace h1 := h1.below b74
    replace hM := hM.below b74
    replace h5 := h5.below b74
    replace j26 := j26.below b74
    replace j31 := j31.below b74
    replace k3 := k3.below b74
    replace k45 := k45.below b74
    replace k58 := k58.below b74
    replace k72 := k72.below b74
    replace hB := below_then hB b74
    replace hL := LL.below hL b74
    refine WL.val (dx_move rfl rfl) rfl rfl ?_
    refine WL.val (dx_extract rfl rfl rfl) rfl rfl ?_
    refine WL.val (dx_extract rfl rfl rfl) rfl rfl ?_
    refine WL.get (dx_alloc rfl ty_zero_26 rfl) rfl rfl ?_
    rintro _ W76 ⟨rfl, k77, b78, z79⟩
    have n80 : w.heap.size ≠ W75.heap.size := Nat.ne_of_lt k3.lt
    have n81 : W36.heap.size ≠ W75.heap.size := Nat.ne_of_lt k45.lt
    have n82 : W48.heap.size ≠ W75.heap.size := Nat.ne_of_lt k58.lt
    have n83 : W61.heap.size ≠ W75.heap.size := Nat.ne_of_lt k72.lt
    have l84 := hB.size
    replace h1 := h1.more b78 (Nat.le_refl _)
    replace hM := hM.more b78 (Nat.le_refl _)
    replace h5 := h5.more b78 (Nat.le_refl _)
    replace j26 := j26.more b78 (Nat.le_refl _)
    replace j31 := j31.more b78 (Nat.le_refl _)
    replace k3 := k3.below b78
    replace k45 := k45.below b78
    replace k58 := k58.below b78
    replace k72 := k72.below b78
    replace hB := below_then hB b78
    replace hL := LL.more hL z79
    refine WL.do (dx_store (cs' := [.int .i64 fr.1.id, .string fr.1.sec, .string fr.1.med, .string fr.1.whr, .string fr.1.tok, .int .i64 fr.1.att, .int .i64 fr.1.since, .int .i64 fr.1.wrong, .bool fr.1.shown, .int .i64 fr.1.sat]) (vs := [.int .i64 fr.1.id, .string fr.1.sec, .string fr.1.med, .string fr.1.whr, .string fr.1.tok, .int .i64 fr.1.att, .int .i64 fr.1.since, .int .i64 fr.1.wrong, .bool fr.1.shown, .int .i64 fr.1.sat]) rfl ty_size_26_10 rfl rfl rfl (oc_cons rfl (oc_cons rfl (oc_cons rfl (oc_cons rfl (oc_cons rfl (oc_cons rfl (oc_cons rfl (oc_cons rfl (oc_cons rfl (oc_cons rfl oc_nil)))))))))) k77 rfl (Nat.le_of_ble_eq_true rfl) rfl) rfl ?_
    rintro _ W85 ⟨k87, o86⟩
    replace k3 := k3.other o86 n80
    replace k45 := k45.other o86 n81
    replace k58 := k58.other o86 n82
    replace k72 := k72.other o86 n83
    clear k77
    replace h1 := h1.only o86 (.head _)
    replace hM := hM.only o86 (.head _)
    replace h5 := h5.only o86 (.head _)
    replace j26 := j26.only o86 (.head _)
    replace j31 := j31.only o86 (.head _)
    replace hB := o86.below hB l84
    replace hL := LL.only hL o86
    refine WL.val (dx_assign rfl rfl) rfl rfl ?_
    refine WL.nil ?_
    refine hK73 ?_
    refine WC.seq fun K88 hK88 => ?_
    refine WC.region ?_
    refine WL.val (dx_move rfl rfl) rfl rfl ?_
    refine WL.val (dx_move rfl rfl) rfl rfl ?_
    refine WL.get (dx_cv rfl Tryz.func12 rfl rfl rfl (sameL_v (subL xs now wt) _ _ W85 _ hL j26 j31)) rfl rfl ?_
    rintro _ W90 ⟨rfl, b89⟩
    replace h1 := h1.below b89
    replace hM := hM.below b89
    replace h5 := h5.below b89
    replace j26 := j26.below b89
    replace j31 := j31.below b89
    replace k3 := k3.below b89
    replace k45 := k45.below b89
    replace k58 := k58.below b89
    replace k72 := k72.below b89
    replace k87 := k87.below b89
    replace hB := below_then hB b89
    replace hL := LL.below hL b89
    refine WL.val (dx_move rfl rfl) rfl rfl ?_
    refine WL.val (dx_move rfl rfl) rfl rfl ?_
    refine WL.val (dx_move rfl rfl) rfl rfl ?_
    refine WL.val (dv_T (dx_eql rfl rfl rfl) rfl) rfl rfl ?_
    refine WL.val (dx_pick rfl rfl rfl) rfl rfl ?_
    refine WL.val (dx_move rfl rfl) rfl rfl ?_
    refine WL.val (dx_loadN rfl ty_agg_24_2 rfl k45.range rfl) rfl rfl ?_
    refine WL.val (dx_loadN rfl ty_agg_24_2 rfl k58.range rfl) rfl rfl ?_
    refine WL.val (dv_T (dx_eqAd rfl rfl rfl) (by simp)) rfl rfl ?_
    refine WL.val (dx_pick rfl rfl rfl) rfl rfl ?_
    refine WL.val (dx_move rfl rfl) rfl rfl ?_
    refine WL.val (dx_move rfl rfl) rfl rfl ?_
    refine WL.val (dx_move rfl rfl) rfl rfl ?_
    refine WL.val (dv_T (dx_eql rfl rfl rfl) rfl) rfl rfl ?_
    refine WL.val (dx_pick rfl rfl rfl) rfl rfl ?_
    refine WL.val (dx_move rfl rfl) rfl rfl ?_
    refine WL.val (dx_loadN rfl ty_agg_26_10 rfl k72.range rfl) rfl rfl ?_
    refine WL.val (dx_loadN rfl ty_agg_26_10 rfl k87.range rfl) rfl rfl ?_
    refine WL.val (dx_eqZR (p := fr.1) rfl rfl rfl) rfl rfl ?_
    refine WL.val (dx_pick rfl rfl rfl) rfl rfl ?_
    refine WL.val (dx_move rfl rfl) rfl rfl ?_
    refine WL.val (dx_move rfl rfl) rfl rfl ?_
    refine WL.val (dx_move rfl rfl) rfl rfl ?_
    refine WL.val (dv_T (dx_eqB rfl Tryz.underlying4 rfl rfl) rfl) rfl rfl ?_
    refine WL.val (dx_pick rfl rfl rfl) rfl rfl ?_
    refine WL.val (dx_move rfl rfl) rfl rfl ?_
    refine WL.val (dx_move rfl rfl) rfl rfl ?_
    refine WL.val (dx_move rfl rfl) rfl rfl ?_
    refine WL.get (dx_cv rfl Tryz.func13 rfl rfl rfl ((prune_v xs now _ W90 _ hL h5 hM hsm).mono fun v W _ h => (show RdF 10 (W75.heap.size :: W61.heap.size :: W48.heap.size :: W36.heap.size :: w.heap.size :: L) W v ((pruneZ xs now).map encZ) from h.rd hL))) rfl rfl ?_
    rintro u91 W94 ⟨j92, b93⟩
    replace h1 := h1.below b93
    replace hM := hM.below b93
    replace h5 := h5.below b93
    replace j26 := j26.below b93
    replace j31 := j31.below b93
    replace k3 := k3.below b93
    replace k45 := k45.below b93
    replace k58 := k58.below b93
    replace k72 := k72.below b93
    replace k87 := k87.below b93
    replace hB := below_then hB b93
    replace hL := LL.below hL b93
    refine WL.val (dx_move rfl rfl) rfl rfl ?_
    refine WL.val (dx_move rfl rfl) rfl rfl ?_
    refine WL.get (dx_cv rfl Tryz.func14 rfl rfl rfl ((refPrune_v xs now _ W94 _ hL h1 hz).mono fun v W _ h => (show RdF 10 (W75.heap.size :: W61.heap.size :: W48.heap.size :: W36.heap.size :: w.heap.size :: L) W v ((pruneZ xs now).map encZ) from h.rd hL))) rfl rfl ?_
    rintro u95 W98 ⟨j96, b97⟩
    replace h1 := h1.below b97
    replace hM := hM.below b97
    replace h5 := h5.below b97
    replace j26 := j26.below b97
    replace j31 := j31.below b97
    replace j92 := j92.below b97
    replace k3 := k3.below b97
    replace k45 := k45.below b97
    replace k58 := k58.below b97
    replace k72 := k72.below b97
    replace k87 := k87.below b97
    replace hB := below_then hB b97
    replace hL := LL.below hL b97
    refine WL.get (dx_cv rfl Tryz.func12 rfl rfl rfl (sameL_v (pruneZ xs now) _ _ W98 _ hL j92 j96)) rfl rfl ?_
    rintro _ W100 ⟨rfl, b99⟩
    replace h1 := h1.below b99
    replace hM := hM.below b99
    replace h5 := h5.below b99
    replace j26 := j26.below b99
    replace j31 := j31.below b99
    replace j92 := j92.below b99
    replace j96 := j96.below b99
    replace k3 := k3.below b99
    replace k45 := k45.below b99
    replace k58 := k58.below b99
    replace k72 := k72.below b99
    replace k87 := k87.below b99
    replace hB := below_then hB b99
    replace hL := LL.below hL b99
    refine WL.val (dx_pick rfl rfl rfl) rfl rfl ?_
    refine WL.val (dx_move rfl rfl) rfl rfl ?_
    refine WL.val (dx_move rfl rfl) rfl rfl ?_
    refine WL.val (dx_move rfl rfl) rfl rfl ?_
    refine WL.get (dx_cv rfl Tryz.func12 rfl rfl rfl (sameL_v xs _ _ W100 _ hL h5 h1)) rfl rfl ?_
    rintro _ W102 ⟨rfl, b101⟩
    replace h1 := h1.below b101
    replace hM := hM.below b101
    replace h5 := h5.below b101
    replace j26 := j26.below b101
    replace j31 := j31.below b101
    replace j92 := j92.below b101
    replace j96 := j96.below b101
    replace k3 := k3.below b101
    replace k45 := k45.below b101
    replace k58 := k58.below b101
    replace k72 := k72.below b101
    replace k87 := k87.below b101
    replace hB := below_then hB b101
    replace hL := LL.below hL b101
    refine WL.val (dx_pick rfl rfl rfl) rfl rfl ?_
    refine WL.val (dx_assign rfl rfl) rfl rfl ?_
    refine WL.nil ?_
    refine hK88 ?_
    refine WC.ret fun a_ ha_ => ?_
    exact hQ (cv_ret1 rfl (.tmp rfl) rfl hB ha_)

end Go.Proofs.YthllidchoodofaaGreatDoor

/- The law DiskSure. -/
import Derived.Test.YthefddclefimoaaDskI
namespace Go.Proofs.Ythefddclefimoaa
open Go.RowKit
set_option linter.unusedVariables false
set_option linter.unusedSimpArgs false
set_option maxRecDepth 8000

set_option maxHeartbeats 1000000 in
theorem diskSure_v (ov : Value) (ops : List (Bool × Int × Int)) (fv : Value) (fs : List (Int × Int)) (fu : Int) (w : World) (L : List Nat) (hL : LL L w) (h1 : RdF 3 L w ov (ops.map encO)) (h3 : RdF 2 L w fv (fs.map encF))  (hL0 : LL L w) (hfs : ∀ f ∈ fs, 0 ≤ f.1 ∧ f.1 ≤ 255 ∧ 0 ≤ f.2 ∧ f.2 ≤ 255) (hops : ∀ p ∈ ops, 0 ≤ p.2.1 ∧ p.2.1 ≤ 255 ∧ 0 ≤ p.2.2 ∧ p.2.2 ≤ 255) (hfu0 : 0 ≤ fu ∧ fu ≤ 255) : CV Try.prog 6 [ov, fv, .int .u8 fu] w fun v W => v = .bool true := by
  refine cv_enter (N := 180) (f := [(0, ov), (1, fv), (2, .int .u8 fu)]) Try.func6 rfl rfl rfl rfl fun Q hQ hE => ?_
  have hB := Below.refl w.heap.size w
  have h1m : ops.length ≤ maxLen := by have := h1.len; rwa [List.length_map] at this
  unfold maxLen at h1m
  have h3m : fs.length ≤ maxLen := by have := h3.len; rwa [List.length_map] at this
  unfold maxLen at h3m
  refine WC.seq fun K1 hK1 => ?_
  refine WC.region ?_
  refine WL.val (dx_assign rfl rfl) rfl rfl ?_
  refine WL.nil ?_
  refine hK1 ?_
  refine WC.seq fun K2 hK2 => ?_
  refine WC.seq fun K3 hK3 => ?_
  refine WC.region ?_
  refine WL.get (dx_cv rfl Try.func8 rfl rfl rfl (alive_v w _ hL hL)) rfl rfl ?_
  rintro _ W5 ⟨rfl, b4⟩
  replace h1 := h1.below b4
  replace h3 := h3.below b4
  replace hB := below_then hB b4
  replace hL := LL.below hL b4
  refine WL.val (dx_not rfl rfl) rfl rfl ?_
  refine WL.nil ?_
  refine hK3 ?_
  refine WC.condF rfl ?_
  refine WC.skip ?_
  refine hK2 ?_
  refine WC.seq fun K6 hK6 => ?_
  refine WC.seq fun K7 hK7 => ?_
  refine WC.region ?_
  refine WL.val (dx_move rfl rfl) rfl rfl ?_
  refine WL.val (dx_lenM rfl ty_slice_45 rfl h1) rfl rfl ?_
  refine WL.val (dx_gtr rfl rfl rfl) rfl rfl ?_
  refine WL.val (dx_move rfl rfl) rfl rfl ?_
  refine WL.split 29 rfl (fun g8 => ?_) (fun g8 => ?_)
  ·
    replace g8 := of_decide_eq_true g8
    refine WL.off rfl rfl rfl ?_
    refine WL.off rfl rfl rfl ?_
    refine WL.off rfl rfl rfl ?_
    refine WL.val (dx_pick rfl rfl rfl) rfl rfl ?_
    refine WL.nil ?_
    refine hK7 ?_
    refine WC.condT rfl ?_
    refine WC.seq fun K9 hK9 => ?_
    refine WC.region ?_
    refine WL.val (dx_assign rfl rfl) rfl rfl ?_
    refine WL.nil ?_
    refine hK9 ?_
    refine WC.ret fun a_ ha_ => ?_
    exact hQ (cv_ret1 rfl (.tmp rfl) rfl hB ha_)
  ·
    replace g8 := of_decide_eq_false g8
    refine WL.val (dx_move rfl rfl) rfl rfl ?_
    refine WL.val (dx_lenM rfl ty_slice_38 rfl h3) rfl rfl ?_
    refine WL.val (dx_gtr rfl rfl rfl) rfl rfl ?_
    refine WL.val (dx_pick rfl rfl rfl) rfl rfl ?_
    refine WL.nil ?_
    refine hK7 ?_
    refine WC.cond rfl (fun c10 => ?_) (fun c10 => ?_)
    ·
      replace c10 := of_decide_eq_true c10
      refine WC.seq fun K11 hK11 => ?_
      refine WC.region ?_
      refine WL.val (dx_assign rfl rfl) rfl rfl ?_
      refine WL.nil ?_
      refine hK11 ?_
      refine WC.ret fun a_ ha_ => ?_
      exact hQ (cv_ret1 rfl (.tmp rfl) rfl hB ha_)
    ·
      replace c10 := of_decide_eq_false c10
      refine WC.skip ?_
      refine hK6 ?_
      refine WC.seq fun K12 hK12 => ?_
      refine WC.region ?_
      refine WL.get (dx_cv rfl Try.func24 rfl rfl rfl (new_c W5 _ hL)) rfl rfl ?_
      rintro _ W18 ⟨⟨u13, u14, rfl, j15, j16⟩, b17⟩
      replace h1 := h1.below b17
      replace h3 := h3.below b17
      replace hB := below_then hB b17
      replace hL := LL.below hL b17
      refine WL.val (dx_move rfl rfl) rfl rfl ?_
      refine WL.val (dx_extract rfl rfl rfl) rfl rfl ?_
      refine WL.val (dx_extract rfl rfl rfl) rfl rfl ?_
      refine WL.get (dx_alloc rfl ty_zero_25 rfl) rfl rfl ?_
      rintro _ W19 ⟨rfl, k20, b21, z22⟩
      have l23 := hB.size
      replace h1 := h1.more b21 (Nat.le_refl _)
      replace h3 := h3.more b21 (Nat.le_refl _)
      replace j15 := j15.more b21 (Nat.le_refl _)
      replace j16 := j16.more b21 (Nat.le_refl _)
      replace hB := below_then hB b21
      replace hL := LL.more hL z22
      refine WL.do (dx_store (cs' := [u13, u14, .int .i64 (-1), .bool false]) (vs := [u13, u14, .int .i64 (-1), .bool false]) rfl ty_size_25_4 rfl rfl rfl (oc_cons j15.one (oc_cons j16.one (oc_cons rfl (oc_cons rfl oc_nil)))) k20 rfl (Nat.le_of_ble_eq_true rfl) rfl) rfl ?_
      rintro _ W24 ⟨k26, o25⟩
      clear k20
      replace h1 := h1.only o25 (.head _)
      replace h3 := h3.only o25 (.head _)
      replace j15 := j15.only o25 (.head _)
      replace j16 := j16.only o25 (.head _)
      replace hB := o25.below hB l23
      replace hL := LL.only hL o25
      refine WL.val (dx_assign rfl rfl) rfl rfl ?_
      refine WL.nil ?_
      refine hK12 ?_
      refine WC.seq fun K27 hK27 => ?_
      refine WC.region ?_
      refine WL.val (dx_loadN rfl ty_agg_25_4 rfl k26.range rfl) rfl rfl ?_
      refine WL.val (dx_move rfl rfl) rfl rfl ?_
      refine WL.val (dx_conv (r := fu) rfl Try.underlying5 Try.underlying3 rfl (wrap64_id (by omega))) rfl rfl ?_
      refine WL.get (dx_cv rfl Try.func22 rfl rfl rfl (arm_c hL j15 j16 (by omega))) rfl rfl ?_
      rintro _ W29 ⟨rfl, b28⟩
      replace h1 := h1.below b28
      replace h3 := h3.below b28
      replace j15 := j15.below b28
      replace j16 := j16.below b28
      replace k26 := k26.below b28
      replace hB := below_then hB b28
      replace hL := LL.below hL b28
      refine WL.do (dx_store (cs' := [u13, u14, .int .i64 fu, .bool false]) (vs := [u13, u14, .int .i64 fu, .bool false]) rfl ty_size_25_4 rfl rfl rfl (oc_cons j15.one (oc_cons j16.one (oc_cons rfl (oc_cons rfl oc_nil)))) k26 rfl (Nat.le_of_ble_eq_true rfl) rfl) rfl ?_
      rintro _ W30 ⟨k32, o31⟩
      clear k26
      replace h1 := h1.only o31 (.head _)
      replace h3 := h3.only o31 (.head _)
      replace j15 := j15.only o31 (.head _)
      replace j16 := j16.only o31 (.head _)
      replace hB := o31.below hB l23
      replace hL := LL.only hL o31
      refine WL.nil ?_
      refine hK27 ?_
      refine WC.seq fun K33 hK33 => ?_
      refine WC.region ?_
      refine WL.get (dx_alloc rfl ty_zero_46 rfl) rfl rfl ?_
      rintro _ W34 ⟨rfl, k35, b36, z37⟩
      have n38 : W18.heap.size ≠ W30.heap.size := Nat.ne_of_lt k32.lt
      have l39 := hB.size
      replace h1 := h1.more b36 (Nat.le_refl _)
      replace h3 := h3.more b36 (Nat.le_refl _)
      replace j15 := j15.more b36 (Nat.le_refl _)
      replace j16 := j16.more b36 (Nat.le_refl _)
      replace k32 := k32.below b36
      replace hB := below_then hB b36
      replace hL := LL.more hL z37
      refine WL.get (dx_alloc rfl ty_zero_46 rfl) rfl rfl ?_
      rintro _ W40 ⟨rfl, k41, b42, z43⟩
      have n44 : W18.heap.size ≠ W34.heap.size := Nat.ne_of_lt k32.lt
      have n45 : W30.heap.size ≠ W34.heap.size := Nat.ne_of_lt k35.lt
      have l46 := hB.size
      replace h1 := h1.more b42 (Nat.le_refl _)
      replace h3 := h3.more b42 (Nat.le_refl _)
      replace j15 := j15.more b42 (Nat.le_refl _)
      replace j16 := j16.more b42 (Nat.le_refl _)
      replace k32 := k32.below b42
      replace k35 := k35.below b42
      replace hB := below_then hB b42
      replace hL := LL.more hL z43
      refine WL.nil ?_
      refine hK33 ?_
      refine WC.seq fun K47 hK47 => ?_
      refine WC.region ?_
      refine WL.val (dx_build rfl rfl builtI8) rfl rfl ?_
      refine WL.get (dx_alloc rfl ty_zero_47 rfl) rfl rfl ?_
      rintro _ W48 ⟨rfl, k49, b50, z51⟩
      have n52 : W18.heap.size ≠ W40.heap.size := Nat.ne_of_lt k32.lt
      have n53 : W30.heap.size ≠ W40.heap.size := Nat.ne_of_lt k35.lt
      have n54 : W34.heap.size ≠ W40.heap.size := Nat.ne_of_lt k41.lt
      have l55 := hB.size
      replace h1 := h1.more b50 (Nat.le_refl _)
      replace h3 := h3.more b50 (Nat.le_refl _)
      replace j15 := j15.more b50 (Nat.le_refl _)
      replace j16 := j16.more b50 (Nat.le_refl _)
      replace k32 := k32.below b50
      replace k35 := k35.below b50
      replace k41 := k41.below b50
      replace hB := below_then hB b50
      replace hL := LL.more hL z51
      refine WL.do (dx_storeW (vs := (encI (sinceS []))) rfl ty_size_47_8 rfl rfl rfl (oc_I (sinceS [])) k49 (by rw [encI_len]; exact (sinceS_len [])) rfl) rfl ?_
      rintro _ W56 ⟨k58, o57⟩
      replace k32 := k32.other o57 n52
      replace k35 := k35.other o57 n53
      replace k41 := k41.other o57 n54
      clear k49
      replace h1 := h1.only o57 (.head _)
      replace h3 := h3.only o57 (.head _)
      replace j15 := j15.only o57 (.head _)
      replace j16 := j16.only o57 (.head _)
      replace hB := o57.below hB l55
      replace hL := LL.only hL o57
      refine WL.nil ?_
      refine hK47 ?_
      refine WC.seq fun K59 hK59 => ?_
      refine WC.region ?_
      refine WL.val (dx_assign rfl rfl) rfl rfl ?_
      refine WL.nil ?_
      refine hK59 ?_
      refine WC.seq fun K60 hK60 => ?_
      refine WC.seq fun K61 hK61 => ?_
      refine WC.region ?_
      refine WL.val (dx_assign rfl rfl) rfl rfl ?_
      refine WL.nil ?_
      refine hK61 ?_
      refine WC.block ?_
      refine WC.loop (fun (st : DsSt) => [(0, ov), (1, fv), (7, .pointer (some ⟨W18.heap.size, 0, none⟩)), (8, .int .i64 0), (9, .pointer (some ⟨W30.heap.size, 0, none⟩)), (10, .pointer (some ⟨W34.heap.size, 0, none⟩)), (11, .pointer (some ⟨W40.heap.size, 0, none⟩)), (12, .bool st.down), (13, .int .i64 (st.i : Int))]) (fun (st : DsSt) W => st.i ≤ ops.length ∧ st.sure.length = 8 ∧ st.ws.length ≤ st.i ∧ (∀ p ∈ st.ws, 0 ≤ p.1 ∧ p.1 < 8) ∧ (0 ≤ st.fuse ∧ st.fuse ≤ 255) ∧ Below w.heap.size w W ∧ LL (W40.heap.size :: W34.heap.size :: W30.heap.size :: W18.heap.size :: L) W ∧ RdF 3 (W40.heap.size :: W34.heap.size :: W30.heap.size :: W18.heap.size :: L) W ov (ops.map encO) ∧ RdF 2 (W40.heap.size :: W34.heap.size :: W30.heap.size :: W18.heap.size :: L) W fv (fs.map encF) ∧ RdF 128 (W40.heap.size :: W34.heap.size :: W30.heap.size :: W18.heap.size :: L) W st.s1 (((st.sure).map fillS).map encS) ∧ RdF 129 (W40.heap.size :: W34.heap.size :: W30.heap.size :: W18.heap.size :: L) W st.s2 (((st.ws).map wrS).map encW) ∧ Blk W W18.heap.size [st.s1, st.s2, .int .i64 st.fuse, .bool st.down] ∧ Blk W W30.heap.size (encS st.sure) ∧ Blk W W34.heap.size (encS (lastS st.sure st.ws)) ∧ Blk W W40.heap.size (encI (sinceS st.ws))) (fun (st : DsSt) => ops.length - st.i) ⟨0, List.replicate 8 0, [], fu, false, u13, u14⟩ (by repeat first | exact trivial | exact And.intro rfl trivial | refine And.intro rfl ?_ | refine And.intro (congrArg (fun z : Int => some (Value.int .i64 z)) (by omega)) ?_) ⟨Nat.zero_le _, rfl, Nat.zero_le _, (fun p hp => by cases hp), hfu0, hB, hL, h1, h3, j15, j16, k32, k35, k41, k58⟩ ?_
      clear h1 h3 j15 j16 k32 k35 k41 k58 hB hL
      rintro K62 st W63 ⟨hi, hs, hwl, hwa, hfu, hB, hL, h1, h3, j15, j16, k32, k35, k41, k58⟩ hK62
      refine WC.seq fun K64 hK64 => ?_
      refine WC.seq fun K65 hK65 => ?_
      refine WC.region ?_
      refine WL.val (dx_move rfl rfl) rfl rfl ?_
      refine WL.val (dx_move rfl rfl) rfl rfl ?_
      refine WL.val (dx_lenM rfl ty_slice_45 rfl h1) rfl rfl ?_
      refine WL.val (dx_lss rfl rfl rfl) rfl rfl ?_
      refine WL.val (dx_move rfl rfl) rfl rfl ?_
      refine WL.split 47 rfl (fun g66 => ?_) (fun g66 => ?_)
      ·
        replace g66 := of_decide_eq_true g66
        refine WL.val (dx_move rfl rfl) rfl rfl ?_
        refine WL.val (dx_eql rfl rfl rfl) rfl rfl ?_
        refine WL.val (dx_pick rfl rfl rfl) rfl rfl ?_
        refine WL.val (dx_move rfl rfl) rfl rfl ?_
        refine WL.val (dx_move rfl rfl) rfl rfl ?_
        refine WL.val (dx_not rfl rfl) rfl rfl ?_
        refine WL.val (dx_pick rfl rfl rfl) rfl rfl ?_
        refine WL.nil ?_
        refine hK65 ?_
        refine WC.cond rfl (fun c67 => ?_) (fun c67 => ?_)
        ·
          replace c67 := bnot_t c67
          refine WC.skip ?_
          refine hK64 ?_
          refine WC.seq fun K68 hK68 => ?_
          refine WC.block ?_
          refine WC.seq fun K69 hK69 => ?_
          refine WC.seq fun K70 hK70 => ?_
          refine WC.region ?_
          refine WL.val (dx_move rfl rfl) rfl rfl ?_
          refine WL.val (dx_move rfl rfl) rfl rfl ?_
          obtain ⟨r71, e72⟩ : ∃ x, ops[st.i]? = some x := ⟨_, List.getElem?_eq_getElem (by omega)⟩
          have Gr71 := hops r71 (List.mem_of_getElem? e72)
          refine WL.get (dx_idxF st.i rfl ty_slice_45 rfl rfl h1 (by omega) (at_map e72)) rfl rfl ?_
          rintro u73 _ ⟨rfl, p74⟩
          refine WL.get (dx_fldP 1 rfl ty_fld_49_0_0 rfl p74 (cs' := [.bool r71.1]) rfl (Nat.succ_pos _)) rfl rfl ?_
          rintro u75 _ ⟨rfl, p76⟩
          refine WL.val (dx_loadP rfl ty_one_4 rfl p76) rfl rfl ?_
          refine WL.nil ?_
          refine hK70 ?_
          refine WC.cond rfl (fun c77 => ?_) (fun c77 => ?_)
          ·
            refine WC.seq fun K78 hK78 => ?_
            have hdn : st.down = false := by assumption
            rcases (show st.fuse = 0 ∨ 0 < st.fuse by omega) with hz | hz
            ·
              refine WC.region ?_
              refine WL.val (dx_loadN rfl ty_agg_25_4 rfl k32.range rfl) rfl rfl ?_
              refine WL.get (dx_cv rfl Try.func20 rfl rfl rfl (sync_c9 hL j15 j16 hs (by omega) hwa hdn hz)) rfl rfl ?_
              rintro _ W84 ⟨⟨u79, u80, rfl, j81, j82⟩, b83⟩
              replace h1 := h1.below b83
              replace h3 := h3.below b83
              replace j15 := j15.below b83
              replace j16 := j16.below b83
              replace k32 := k32.below b83
              replace k35 := k35.below b83
              replace k41 := k41.below b83
              replace k58 := k58.below b83
              replace hB := below_then hB b83
              replace hL := LL.below hL b83
              refine WL.val (dx_move rfl rfl) rfl rfl ?_
              refine WL.val (dx_extract rfl rfl rfl) rfl rfl ?_
              refine WL.val (dx_extract rfl rfl rfl) rfl rfl ?_
              refine WL.get (dx_alloc rfl ty_zero_25 rfl) rfl rfl ?_
              rintro _ W85 ⟨rfl, k86, b87, z88⟩
              have n89 : W18.heap.size ≠ W84.heap.size := Nat.ne_of_lt k32.lt
              have n90 : W30.heap.size ≠ W84.heap.size := Nat.ne_of_lt k35.lt
              have n91 : W34.heap.size ≠ W84.heap.size := Nat.ne_of_lt k41.lt
              have n92 : W40.heap.size ≠ W84.heap.size := Nat.ne_of_lt k58.lt
              have l93 := hB.size
              replace h1 := h1.more b87 (Nat.le_refl _)
              replace h3 := h3.more b87 (Nat.le_refl _)
              replace j15 := j15.more b87 (Nat.le_refl _)
              replace j16 := j16.more b87 (Nat.le_refl _)
              replace j81 := j81.more b87 (Nat.le_refl _)
              replace j82 := j82.more b87 (Nat.le_refl _)
              replace k32 := k32.below b87
              replace k35 := k35.below b87
              replace k41 := k41.below b87
              replace k58 := k58.below b87
              replace hB := below_then hB b87
              replace hL := LL.more hL z88
              refine WL.do (dx_store (cs' := [u79, u80, .int .i64 0, .bool true]) (vs := [u79, u80, .int .i64 0, .bool true]) rfl ty_size_25_4 rfl rfl rfl (oc_cons j81.one (oc_cons j82.one (oc_cons rfl (oc_cons rfl oc_nil)))) k86 rfl (Nat.le_of_ble_eq_true rfl) rfl) rfl ?_
              rintro _ W94 ⟨k96, o95⟩
              replace k32 := k32.other o95 n89
              replace k35 := k35.other o95 n90
              replace k41 := k41.other o95 n91
              replace k58 := k58.other o95 n92
              clear k86
              replace h1 := h1.only o95 (.head _)
              replace h3 := h3.only o95 (.head _)
              replace j15 := j15.only o95 (.head _)
              replace j16 := j16.only o95 (.head _)
              replace j81 := j81.only o95 (.head _)
              replace j82 := j82.only o95 (.head _)
              replace hB := o95.below hB l93
              replace hL := LL.only hL o95
              refine WL.val (dx_assign rfl rfl) rfl rfl ?_
              refine WL.nil ?_
              refine hK78 ?_
              refine WC.seq fun K97 hK97 => ?_
              refine WC.region ?_
              refine WL.val (dx_move rfl rfl) rfl rfl ?_
              refine WL.val (dx_eql rfl rfl rfl) rfl rfl ?_
              refine WL.val (dx_assign rfl rfl) rfl rfl ?_
              refine WL.nil ?_
              refine hK97 ?_
              refine WC.seq fun K98 hK98 => ?_
              refine WC.seq fun K99 hK99 => ?_
              refine WC.region ?_
              refine WL.val (dx_move rfl rfl) rfl rfl ?_
              refine WL.val (dx_eql rfl rfl rfl) rfl rfl ?_
              refine WL.nil ?_
              refine hK99 ?_
              refine WC.condF rfl ?_
              refine WC.skip ?_
              refine hK98 ?_
              refine WC.seq fun K100 hK100 => ?_
              refine WC.region ?_
              refine WL.val (dx_loadN rfl ty_agg_25_4 rfl k96.range rfl) rfl rfl ?_
              refine WL.do (dx_store (cs' := [u79, u80, .int .i64 0, .bool true]) (vs := [u79, u80, .int .i64 0, .bool true]) rfl ty_size_25_4 rfl rfl rfl (oc_cons j81.one (oc_cons j82.one (oc_cons rfl (oc_cons rfl oc_nil)))) k32 rfl (Nat.le_of_ble_eq_true rfl) rfl) rfl ?_
              rintro _ W101 ⟨k103, o102⟩
              replace k35 := k35.other o102 n38.symm
              replace k41 := k41.other o102 n44.symm
              replace k58 := k58.other o102 n52.symm
              replace k96 := k96.other o102 n89.symm
              clear k32
              replace h1 := h1.only o102 (.tail _ (.tail _ (.tail _ (.tail _ (.head _)))))
              replace h3 := h3.only o102 (.tail _ (.tail _ (.tail _ (.tail _ (.head _)))))
              replace j15 := j15.only o102 (.tail _ (.tail _ (.tail _ (.tail _ (.head _)))))
              replace j16 := j16.only o102 (.tail _ (.tail _ (.tail _ (.tail _ (.head _)))))
              replace j81 := j81.only o102 (.tail _ (.tail _ (.tail _ (.tail _ (.head _)))))
              replace j82 := j82.only o102 (.tail _ (.tail _ (.tail _ (.tail _ (.head _)))))
              replace hB := o102.below hB l23
              replace hL := LL.only hL o102
              refine WL.nil ?_
              refine hK100 ?_
              refine WC.exit ?_
              refine hK68 ?_
              refine WC.region ?_
              refine WL.val (dx_move rfl rfl) rfl rfl ?_
              refine WL.val (dx_add (r := (st.i : Int) + 1) rfl rfl rfl (wrap64_id (by omega))) rfl rfl ?_
              refine WL.val (dx_assign rfl rfl) rfl rfl ?_
              refine WL.nil ?_
              replace hL := hL.less (fun x hx => (.tail _ hx))
              replace h1 := h1.less (fun x hx => (.tail _ hx))
              replace h3 := h3.less (fun x hx => (.tail _ hx))
              replace j81 := j81.less (fun x hx => (.tail _ hx))
              replace j82 := j82.less (fun x hx => (.tail _ hx))
              exact hK62 ⟨st.i + 1, st.sure, st.ws, 0, true, u79, u80⟩ ⟨(by show st.i + 1 ≤ ops.length; omega), hs, (by show st.ws.length ≤ st.i + 1; omega), hwa, (by simp), hB, hL, h1, h3, j81, j82, k103, k35, k41, k58⟩ (by show ops.length - (st.i + 1) < ops.length - st.i; omega) (by repeat first | exact trivial | exact And.intro rfl trivial | refine And.intro rfl ?_ | refine And.intro (congrArg (fun z : Int => some (Value.int .i64 z)) (by omega)) ?_)
            ·
              refine WC.region ?_
              refine WL.val (dx_loadN rfl ty_agg_25_4 rfl k32.range rfl) rfl rfl ?_
              refine WL.get (dx_cv rfl Try.func20 rfl rfl rfl (sync_c0 hL j15 j16 hs (by omega) hwa hfu hdn hz)) rfl rfl ?_
              rintro _ W109 ⟨⟨u104, u105, rfl, j106, j107⟩, b108⟩
              replace h1 := h1.below b108
              replace h3 := h3.below b108
              replace j15 := j15.below b108
              replace j16 := j16.below b108
              replace k32 := k32.below b108
              replace k35 := k35.below b108
              replace k41 := k41.below b108
              replace k58 := k58.below b108
              replace hB := below_then hB b108
              replace hL := LL.below hL b108
              refine WL.val (dx_move rfl rfl) rfl rfl ?_
              refine WL.val (dx_extract rfl rfl rfl) rfl rfl ?_
              refine WL.val (dx_extract rfl rfl rfl) rfl rfl ?_
              refine WL.get (dx_alloc rfl ty_zero_25 rfl) rfl rfl ?_
              rintro _ W110 ⟨rfl, k111, b112, z113⟩
              have n114 : W18.heap.size ≠ W109.heap.size := Nat.ne_of_lt k32.lt
              have n115 : W30.heap.size ≠ W109.heap.size := Nat.ne_of_lt k35.lt
              have n116 : W34.heap.size ≠ W109.heap.size := Nat.ne_of_lt k41.lt
              have n117 : W40.heap.size ≠ W109.heap.size := Nat.ne_of_lt k58.lt
              have l118 := hB.size
              replace h1 := h1.more b112 (Nat.le_refl _)
              replace h3 := h3.more b112 (Nat.le_refl _)
              replace j15 := j15.more b112 (Nat.le_refl _)
              replace j16 := j16.more b112 (Nat.le_refl _)
              replace j106 := j106.more b112 (Nat.le_refl _)
              replace j107 := j107.more b112 (Nat.le_refl _)
              replace k32 := k32.below b112
              replace k35 := k35.below b112
              replace k41 := k41.below b112
              replace k58 := k58.below b112
              replace hB := below_then hB b112
              replace hL := LL.more hL z113
              refine WL.do (dx_store (cs' := [u104, u105, .int .i64 (st.fuse - 1), .bool false]) (vs := [u104, u105, .int .i64 (st.fuse - 1), .bool false]) rfl ty_size_25_4 rfl rfl rfl (oc_cons j106.one (oc_cons j107.one (oc_cons rfl (oc_cons rfl oc_nil)))) k111 rfl (Nat.le_of_ble_eq_true rfl) rfl) rfl ?_
              rintro _ W119 ⟨k121, o120⟩
              replace k32 := k32.other o120 n114
              replace k35 := k35.other o120 n115
              replace k41 := k41.other o120 n116
              replace k58 := k58.other o120 n117
              clear k111
              replace h1 := h1.only o120 (.head _)
              replace h3 := h3.only o120 (.head _)
              replace j15 := j15.only o120 (.head _)
              replace j16 := j16.only o120 (.head _)
              replace j106 := j106.only o120 (.head _)
              replace j107 := j107.only o120 (.head _)
              replace hB := o120.below hB l118
              replace hL := LL.only hL o120
              refine WL.val (dx_assign rfl rfl) rfl rfl ?_
              refine WL.nil ?_
              refine hK78 ?_
              refine WC.seq fun K122 hK122 => ?_
              refine WC.region ?_
              refine WL.val (dx_move rfl rfl) rfl rfl ?_
              refine WL.val (dx_eql rfl rfl rfl) rfl rfl ?_
              refine WL.val (dx_assign rfl rfl) rfl rfl ?_
              refine WL.nil ?_
              refine hK122 ?_
              refine WC.seq fun K123 hK123 => ?_
              refine WC.seq fun K124 hK124 => ?_
              refine WC.region ?_
              refine WL.val (dx_move rfl rfl) rfl rfl ?_
              refine WL.val (dx_eql rfl rfl rfl) rfl rfl ?_
              refine WL.nil ?_
              refine hK124 ?_
              refine WC.condT rfl ?_
              refine WC.region ?_
              refine WL.val (dx_loadN rfl ty_agg_46_8 rfl k41.range (by rw [encS_len]; exact ((lastS_len _ _).trans hs))) rfl rfl ?_
              refine WL.val (dx_build rfl rfl builtI8) rfl rfl ?_
              refine WL.do (dx_storeW (vs := (encS (lastS st.sure st.ws))) rfl ty_size_46_8 rfl rfl rfl (oc_S (lastS st.sure st.ws)) k35 (by rw [encS_len]; exact ((lastS_len _ _).trans hs)) (by rw [encS_len]; exact hs)) rfl ?_
              rintro _ W125 ⟨k127, o126⟩
              replace k32 := k32.other o126 n38
              replace k41 := k41.other o126 n45.symm
              replace k58 := k58.other o126 n53.symm
              replace k121 := k121.other o126 n115.symm
              clear k35
              replace h1 := h1.only o126 (.tail _ (.tail _ (.tail _ (.head _))))
              replace h3 := h3.only o126 (.tail _ (.tail _ (.tail _ (.head _))))
              replace j15 := j15.only o126 (.tail _ (.tail _ (.tail _ (.head _))))
              replace j16 := j16.only o126 (.tail _ (.tail _ (.tail _ (.head _))))
              replace j106 := j106.only o126 (.tail _ (.tail _ (.tail _ (.head _))))
              replace j107 := j107.only o126 (.tail _ (.tail _ (.tail _ (.head _))))
              replace hB := o126.below hB l39
              replace hL := LL.only hL o126
              refine WL.do (dx_storeW (vs := (encI (sinceS []))) rfl ty_size_47_8 rfl rfl rfl (oc_I (sinceS [])) k58 (by rw [encI_len]; exact (sinceS_len [])) (by rw [encI_len]; exact (sinceS_len _))) rfl ?_
              rintro _ W128 ⟨k130, o129⟩
              replace k32 := k32.other o129 n52
              replace k127 := k127.other o129 n53
              replace k41 := k41.other o129 n54
              replace k121 := k121.other o129 n117.symm
              clear k58
              replace h1 := h1.only o129 (.tail _ (.head _))
              replace h3 := h3.only o129 (.tail _ (.head _))
              replace j15 := j15.only o129 (.tail _ (.head _))
              replace j16 := j16.only o129 (.tail _ (.head _))
              replace j106 := j106.only o129 (.tail _ (.head _))
              replace j107 := j107.only o129 (.tail _ (.head _))
              replace hB := o129.below hB l55
              replace hL := LL.only hL o129
              refine WL.nil ?_
              refine hK123 ?_
              refine WC.seq fun K131 hK131 => ?_
              refine WC.region ?_
              refine WL.val (dx_loadN rfl ty_agg_25_4 rfl k121.range rfl) rfl rfl ?_
              refine WL.do (dx_store (cs' := [u104, u105, .int .i64 (st.fuse - 1), .bool false]) (vs := [u104, u105, .int .i64 (st.fuse - 1), .bool false]) rfl ty_size_25_4 rfl rfl rfl (oc_cons j106.one (oc_cons j107.one (oc_cons rfl (oc_cons rfl oc_nil)))) k32 rfl (Nat.le_of_ble_eq_true rfl) rfl) rfl ?_
              rintro _ W132 ⟨k134, o133⟩
              replace k127 := k127.other o133 n38.symm
              replace k41 := k41.other o133 n44.symm
              replace k130 := k130.other o133 n52.symm
              replace k121 := k121.other o133 n114.symm
              clear k32
              replace h1 := h1.only o133 (.tail _ (.tail _ (.tail _ (.tail _ (.head _)))))
              replace h3 := h3.only o133 (.tail _ (.tail _ (.tail _ (.tail _ (.head _)))))
              replace j15 := j15.only o133 (.tail _ (.tail _ (.tail _ (.tail _ (.head _)))))
              replace j16 := j16.only o133 (.tail _ (.tail _ (.tail _ (.tail _ (.head _)))))
              replace j106 := j106.only o133 (.tail _ (.tail _ (.tail _ (.tail _ (.head _)))))
              replace j107 := j107.only o133 (.tail _ (.tail _ (.tail _ (.tail _ (.head _)))))
              replace hB := o133.below hB l23
              replace hL := LL.only hL o133
              refine WL.nil ?_
              refine hK131 ?_
              refine WC.exit ?_
              refine hK68 ?_
              refine WC.region ?_
              refine WL.val (dx_move rfl rfl) rfl rfl ?_
              refine WL.val (dx_add (r := (st.i : Int) + 1) rfl rfl rfl (wrap64_id (by omega))) rfl rfl ?_
              refine WL.val (dx_assign rfl rfl) rfl rfl ?_
              refine WL.nil ?_
              replace hL := hL.less (fun x hx => (.tail _ hx))
              replace h1 := h1.less (fun x hx => (.tail _ hx))
              replace h3 := h3.less (fun x hx => (.tail _ hx))
              replace j106 := j106.less (fun x hx => (.tail _ hx))
              replace j107 := j107.less (fun x hx => (.tail _ hx))
              exact hK62 ⟨st.i + 1, (lastS st.sure st.ws), [], (st.fuse - 1), false, u104, u105⟩ ⟨(by show st.i + 1 ≤ ops.length; omega), ((lastS_len _ _).trans hs), (by simp), (fun p hp => by cases hp), (by show 0 ≤ st.fuse - 1 ∧ st.fuse - 1 ≤ 255; omega), hB, hL, h1, h3, j106, j107, k134, k127, k41, k130⟩ (by show ops.length - (st.i + 1) < ops.length - st.i; omega) (by repeat first | exact trivial | exact And.intro rfl trivial | refine And.intro rfl ?_ | refine And.intro (congrArg (fun z : Int => some (Value.int .i64 z)) (by omega)) ?_)
          ·
            refine WC.skip ?_
            refine hK69 ?_
            refine WC.seq fun K135 hK135 => ?_
            refine WC.region ?_
            refine WL.val (dx_move rfl rfl) rfl rfl ?_
            refine WL.val (dx_move rfl rfl) rfl rfl ?_
            refine WL.get (dx_idxF st.i rfl ty_slice_45 rfl rfl h1 (by omega) (at_map e72)) rfl rfl ?_
            rintro u136 _ ⟨rfl, p137⟩
            refine WL.get (dx_fldP 1 rfl ty_fld_49_1_1 rfl p137 (cs' := [.int .u8 r71.2.1]) rfl (Nat.succ_pos _)) rfl rfl ?_
            rintro u138 _ ⟨rfl, p139⟩
            refine WL.val (dx_loadP rfl ty_one_5 rfl p139) rfl rfl ?_
            refine WL.val (dx_rem (r := r71.2.1 % 8) rfl rfl rfl (by omega) (Int.tmod_eq_emod_of_nonneg (by omega))) rfl rfl ?_
            refine WL.val (dx_conv (r := r71.2.1 % 8) rfl Try.underlying5 Try.underlying3 rfl (wrap64_id (by omega))) rfl rfl ?_
            refine WL.val (dx_assign rfl rfl) rfl rfl ?_
            refine WL.nil ?_
            refine hK135 ?_
            refine WC.seq fun K140 hK140 => ?_
            have hdn : st.down = false := by assumption
            rcases (show st.fuse = 0 ∨ 0 < st.fuse by omega) with hz | hz
            ·
              refine WC.drawR 14 13 12 17 (fun u W => NewT W63.heap.size 25 4 u W) (fun u W => NewD (W40.heap.size :: W34.heap.size :: W30.heap.size :: W18.heap.size :: L) W63.heap.size 25 st.sure st.ws 0 true u W) (WrT W63.heap.size 25 4) [(some 82, .is (.agg #[st.s1, st.s2, .int .i64 st.fuse, .bool st.down])), (some 83, .is (.int .i64 (r71.2.1 % 8))), (some 84, .is (ov)), (some 85, .is (.int .i64 (st.i : Int))), (some 86, .by fun u W => PtB W63.heap.size (W40.heap.size :: W34.heap.size :: W30.heap.size :: W18.heap.size :: L) W u (encO r71)), (some 87, .by fun u W => PtB W63.heap.size (W40.heap.size :: W34.heap.size :: W30.heap.size :: W18.heap.size :: L) W u [.int .u8 r71.2.2]), (some 88, .is (.int .u8 r71.2.2)), (some 89, .is (.agg (encS (fillS r71.2.2)).toArray)), (some 90, .by fun u W => WrD (W40.heap.size :: W34.heap.size :: W30.heap.size :: W18.heap.size :: L) W st.sure st.ws 0 true 9 u), (some 81, .by fun u W => WrD (W40.heap.size :: W34.heap.size :: W30.heap.size :: W18.heap.size :: L) W st.sure st.ws 0 true 9 u), (some 91, .by fun u W => OutD (W40.heap.size :: W34.heap.size :: W30.heap.size :: W18.heap.size :: L) W st.sure st.ws 0 true u), (some 92, .is (.int .i64 9)), (some 17, .by fun u W => NewT W63.heap.size 25 4 u W), (none, .by fun _ _ => True)] [[], [], [], [], [2, 3], [4], [5], [6], [0, 1, 7, 7], [8], [9], [9], [], [12, 10, 8, 0, 1, 2, 3, 4, 5, 6, 7, 8, 9, 10, 12]] (by kernel_rfl) (by kernel_rfl) (by kernel_rfl) (by kernel_rfl) (by kernel_rfl) (by kernel_rfl) (by kernel_rfl) ⟨fun _ _ _ hb h => h.below hb, fun _ _ _ hb h => h.below hb, fun _ _ _ hb h => h.below hb, fun _ _ _ hb h => h.below hb, fun _ _ _ hb h => h.below hb, fun _ _ _ hb h => h.below hb, fun _ _ _ _ h => h, trivial⟩ rfl rfl rfl (by decide) (by decide) ⟨fun _ _ _ hw h => h.wr hw, fun _ _ _ hw h => h.wr hw, fun _ _ _ hw h => h.wr hw, fun _ _ _ hw h => h.wr hw, fun _ _ _ hw h => h.wr hw, fun _ _ _ hw h => h.wr hw, fun _ _ _ _ h => h, trivial⟩ (fun _ _ _ hb h => h.below hb) (fun _ _ hb hw => hw.below hb) ?_ ?_
              ·
                refine DStepsR.cons (by decide) (fun Wd hd => ?_) ?_
                ·
                  have k32 := k32.below hd
                  exact DV.dr (dx_loadN rfl ty_agg_25_4 rfl k32.range rfl) ⟨Below.refl _ _, rfl⟩
                refine DStepsR.cons (by decide) (fun Wd hd => ?_) ?_
                ·
                  exact DV.dr (dx_move rfl rfl) ⟨Below.refl _ _, rfl⟩
                refine DStepsR.cons (by decide) (fun Wd hd => ?_) ?_
                ·
                  exact DV.dr (dx_move rfl rfl) ⟨Below.refl _ _, rfl⟩
                refine DStepsR.cons (by decide) (fun Wd hd => ?_) ?_
                ·
                  exact DV.dr (dx_move rfl rfl) ⟨Below.refl _ _, rfl⟩
                refine DStepsR.cons (by decide) (fun Wd hd => ?_) ?_
                ·
                  have zh1 := h1
                  exact (dx_idxB st.i rfl ty_slice_45 rfl rfl zh1 hd (by omega) (at_map e72)).mono (fun v W' h => ⟨by rw [← h.1]; exact Below.refl _ _, by rw [← h.1]; exact h.2⟩)
                refine DStepsR.cons (by decide) (fun Wd hd => ?_) ?_
                ·
                  intro u20_4 p20_4
                  exact (dx_fldB 1 rfl ty_fld_49_2_2 rfl p20_4 (cs' := [.int .u8 r71.2.2]) rfl (Nat.succ_pos _)).mono (fun v W' h => ⟨by rw [← h.1]; exact Below.refl _ _, by rw [← h.1]; exact h.2⟩)
                refine DStepsR.cons (by decide) (fun Wd hd => ?_) ?_
                ·
                  intro u20_5 p20_5
                  exact DV.dr (dx_loadP rfl ty_one_5 rfl p20_5.ptr) ⟨Below.refl _ _, rfl⟩
                refine DStepsR.cons (by decide) (fun Wd hd => ?_) ?_
                ·
                  exact DR.mono (dx_cv rfl Try.func26 rfl rfl rfl (filled_v r71.2.2 Wd [] (LL.nil _))) (fun v W' ⟨h, hb⟩ => ⟨hb, (by rw [h]; exact rfl)⟩)
                refine DStepsR.cons (by decide) (fun Wd hd => ?_) ?_
                ·
                  have j15 := j15.below hd
                  have j16 := j16.below hd
                  exact DR.mono (dx_cv rfl Try.func11 rfl rfl rfl (writ_c9 (LL.below hL hd) j15 j16 hs (by omega) hwa hdn hz (r71.2.1 % 8) r71.2.2 (by omega))) (fun v W' ⟨⟨s1', s2', hv, r1, r2⟩, hb⟩ => ⟨hb, _, hv, s1', s2', rfl, r1, r2⟩)
                refine DStepsR.cons (by decide) (fun Wd hd => ?_) ?_
                ·
                  intro u20_8 p20_8
                  exact DV.dr (dx_move rfl rfl) ⟨Below.refl _ _, p20_8⟩
                refine DStepsR.cons (by decide) (fun Wd hd => ?_) ?_
                ·
                  intro u20_9 p20_9
                  obtain ⟨d_, rfl, hd_⟩ := p20_9
                  exact DV.dr (dx_extract rfl rfl rfl) ⟨Below.refl _ _, hd_⟩
                refine DStepsR.cons (by decide) (fun Wd hd => ?_) ?_
                ·
                  intro u20_9 p20_9
                  obtain ⟨d_, rfl, hd_⟩ := p20_9
                  exact DV.dr (dx_extract rfl rfl rfl) ⟨Below.refl _ _, rfl⟩
                refine DStepsR.cons (by decide) (fun Wd hd => ?_) ?_
                ·
                  exact (dx_allocP (cs := [.slice none 0 0, .slice none 0 0, .int .i64 0, .bool false]) rfl ty_zero_25 rfl).mono (fun v W' h => ⟨h.1, (h.2 hd).newT rfl⟩)
                refine DStepsR.hit (fun Wd hd ut hut => ?_) ?_
                ·
                  intro u20_10 p20_10 u20_8 p20_8 u20_4 p20_4 u20_5 p20_5 u20_8 p20_8 u20_9 p20_9 u20_10 p20_10
                  obtain ⟨v20a, v20b, rfl, k20a, k20b⟩ := p20_10
                  exact (dx_storeT (vs := [v20a, v20b, .int .i64 0, .bool true]) rfl ty_size_25_4 rfl hut rfl rfl (oc_cons k20a.one (oc_cons k20b.one (oc_cons rfl (oc_cons rfl oc_nil)))) rfl).mono (fun v W' h => ⟨h.1, v20a, v20b, h.2, k20a.wr h.1 (by omega), k20b.wr h.1 (by omega)⟩)
                exact trivial
              ·
                intro W141 b142
                rintro _ - ⟨v20a, v20b, ⟨B20_12, rfl, q20_12, t20_12⟩, k20a, k20b⟩
                have k20_12 := t20_12.blk
                intro u20_4 p20_4
                intro u20_5 p20_5
                intro _ _
                intro _ _
                intro _ _
                intro _ _
                have n143 : W18.heap.size ≠ B20_12 := Nat.ne_of_lt (Nat.lt_of_lt_of_le k32.lt q20_12)
                have n144 : W30.heap.size ≠ B20_12 := Nat.ne_of_lt (Nat.lt_of_lt_of_le k35.lt q20_12)
                have n145 : W34.heap.size ≠ B20_12 := Nat.ne_of_lt (Nat.lt_of_lt_of_le k41.lt q20_12)
                have n146 : W40.heap.size ≠ B20_12 := Nat.ne_of_lt (Nat.lt_of_lt_of_le k58.lt q20_12)
                replace h1 := h1.more b142 q20_12
                replace h3 := h3.more b142 q20_12
                replace j15 := j15.more b142 q20_12
                replace j16 := j16.more b142 q20_12
                replace k32 := k32.below b142
                replace k35 := k35.below b142
                replace k41 := k41.below b142
                replace k58 := k58.below b142
                have l147 := Nat.le_trans hB.size q20_12
                replace hB := below_then hB b142
                replace hL := LL.below hL b142
                replace hL := LL.cons hL k20_12.lt
                replace k20a := k20a.offB k20_12 (by simp)
                replace k20b := k20b.offB k20_12 (by simp)
                refine WL.val (dx_assign rfl rfl) rfl rfl ?_
                refine WL.nil ?_
                refine hK140 ?_
                refine WC.seq fun K148 hK148 => ?_
                refine WC.region ?_
                refine WL.val (dx_move rfl rfl) rfl rfl ?_
                refine WL.val (dx_eql rfl rfl rfl) rfl rfl ?_
                refine WL.val (dx_assign rfl rfl) rfl rfl ?_
                refine WL.nil ?_
                refine hK148 ?_
                refine WC.seq fun K149 hK149 => ?_
                refine WC.seq fun K150 hK150 => ?_
                refine WC.region ?_
                refine WL.val (dx_move rfl rfl) rfl rfl ?_
                refine WL.val (dx_eql rfl rfl rfl) rfl rfl ?_
                refine WL.nil ?_
                refine hK150 ?_
                refine WC.condF rfl ?_
                refine WC.skip ?_
                refine hK149 ?_
                refine WC.region ?_
                refine WL.val (dx_loadN rfl ty_agg_25_4 rfl k20_12.range rfl) rfl rfl ?_
                refine WL.do (dx_store (cs' := [v20a, v20b, .int .i64 0, .bool true]) (vs := [v20a, v20b, .int .i64 0, .bool true]) rfl ty_size_25_4 rfl rfl rfl (oc_cons k20a.one (oc_cons k20b.one (oc_cons rfl (oc_cons rfl oc_nil)))) k32 rfl (Nat.le_of_ble_eq_true rfl) rfl) rfl ?_
                rintro _ W151 ⟨k153, o152⟩
                replace k35 := k35.other o152 n38.symm
                replace k41 := k41.other o152 n44.symm
                replace k58 := k58.other o152 n52.symm
                replace k20_12 := k20_12.other o152 n143.symm
                clear k32
                replace h1 := h1.only o152 (.tail _ (.tail _ (.tail _ (.tail _ (.head _)))))
                replace h3 := h3.only o152 (.tail _ (.tail _ (.tail _ (.tail _ (.head _)))))
                replace j15 := j15.only o152 (.tail _ (.tail _ (.tail _ (.tail _ (.head _)))))
                replace j16 := j16.only o152 (.tail _ (.tail _ (.tail _ (.tail _ (.head _)))))
                replace k20a := k20a.only o152 (.tail _ (.tail _ (.tail _ (.tail _ (.head _)))))
                replace k20b := k20b.only o152 (.tail _ (.tail _ (.tail _ (.tail _ (.head _)))))
                replace hB := o152.below hB l23
                replace hL := LL.only hL o152
                refine WL.nil ?_
                refine hK68 ?_
                refine WC.region ?_
                refine WL.val (dx_move rfl rfl) rfl rfl ?_
                refine WL.val (dx_add (r := (st.i : Int) + 1) rfl rfl rfl (wrap64_id (by omega))) rfl rfl ?_
                refine WL.val (dx_assign rfl rfl) rfl rfl ?_
                refine WL.nil ?_
                replace hL := hL.less (fun x hx => (.tail _ hx))
                replace h1 := h1.less (fun x hx => (.tail _ hx))
                replace h3 := h3.less (fun x hx => (.tail _ hx))
                replace k20a := k20a.less (fun x hx => (.tail _ hx))
                replace k20b := k20b.less (fun x hx => (.tail _ hx))
                exact hK62 ⟨st.i + 1, st.sure, st.ws, 0, true, v20a, v20b⟩ ⟨(by show st.i + 1 ≤ ops.length; omega), hs, (by show st.ws.length ≤ st.i + 1; omega), hwa, (by simp), hB, hL, h1, h3, k20a, k20b, k153, k35, k41, k58⟩ (by show ops.length - (st.i + 1) < ops.length - st.i; omega) (by repeat first | exact trivial | exact And.intro rfl trivial | refine And.intro rfl ?_ | refine And.intro (congrArg (fun z : Int => some (Value.int .i64 z)) (by omega)) ?_)
            ·
              refine WC.drawR 14 13 12 17 (fun u W => NewT W63.heap.size 25 4 u W) (fun u W => NewD (W40.heap.size :: W34.heap.size :: W30.heap.size :: W18.heap.size :: L) W63.heap.size 25 st.sure (st.ws ++ [((r71.2.1 % 8), r71.2.2)]) (st.fuse - 1) false u W) (WrT W63.heap.size 25 4) [(some 82, .is (.agg #[st.s1, st.s2, .int .i64 st.fuse, .bool st.down])), (some 83, .is (.int .i64 (r71.2.1 % 8))), (some 84, .is (ov)), (some 85, .is (.int .i64 (st.i : Int))), (some 86, .by fun u W => PtB W63.heap.size (W40.heap.size :: W34.heap.size :: W30.heap.size :: W18.heap.size :: L) W u (encO r71)), (some 87, .by fun u W => PtB W63.heap.size (W40.heap.size :: W34.heap.size :: W30.heap.size :: W18.heap.size :: L) W u [.int .u8 r71.2.2]), (some 88, .is (.int .u8 r71.2.2)), (some 89, .is (.agg (encS (fillS r71.2.2)).toArray)), (some 90, .by fun u W => WrD (W40.heap.size :: W34.heap.size :: W30.heap.size :: W18.heap.size :: L) W st.sure (st.ws ++ [((r71.2.1 % 8), r71.2.2)]) (st.fuse - 1) false 0 u), (some 81, .by fun u W => WrD (W40.heap.size :: W34.heap.size :: W30.heap.size :: W18.heap.size :: L) W st.sure (st.ws ++ [((r71.2.1 % 8), r71.2.2)]) (st.fuse - 1) false 0 u), (some 91, .by fun u W => OutD (W40.heap.size :: W34.heap.size :: W30.heap.size :: W18.heap.size :: L) W st.sure (st.ws ++ [((r71.2.1 % 8), r71.2.2)]) (st.fuse - 1) false u), (some 92, .is (.int .i64 0)), (some 17, .by fun u W => NewT W63.heap.size 25 4 u W), (none, .by fun _ _ => True)] [[], [], [], [], [2, 3], [4], [5], [6], [0, 1, 7, 7], [8], [9], [9], [], [12, 10, 8, 0, 1, 2, 3, 4, 5, 6, 7, 8, 9, 10, 12]] (by kernel_rfl) (by kernel_rfl) (by kernel_rfl) (by kernel_rfl) (by kernel_rfl) (by kernel_rfl) (by kernel_rfl) ⟨fun _ _ _ hb h => h.below hb, fun _ _ _ hb h => h.below hb, fun _ _ _ hb h => h.below hb, fun _ _ _ hb h => h.below hb, fun _ _ _ hb h => h.below hb, fun _ _ _ hb h => h.below hb, fun _ _ _ _ h => h, trivial⟩ rfl rfl rfl (by decide) (by decide) ⟨fun _ _ _ hw h => h.wr hw, fun _ _ _ hw h => h.wr hw, fun _ _ _ hw h => h.wr hw, fun _ _ _ hw h => h.wr hw, fun _ _ _ hw h => h.wr hw, fun _ _ _ hw h => h.wr hw, fun _ _ _ _ h => h, trivial⟩ (fun _ _ _ hb h => h.below hb) (fun _ _ hb hw => hw.below hb) ?_ ?_
              ·
                refine DStepsR.cons (by decide) (fun Wd hd => ?_) ?_
                ·
                  have k32 := k32.below hd
                  exact DV.dr (dx_loadN rfl ty_agg_25_4 rfl k32.range rfl) ⟨Below.refl _ _, rfl⟩
                refine DStepsR.cons (by decide) (fun Wd hd => ?_) ?_
                ·
                  exact DV.dr (dx_move rfl rfl) ⟨Below.refl _ _, rfl⟩
                refine DStepsR.cons (by decide) (fun Wd hd => ?_) ?_
                ·
                  exact DV.dr (dx_move rfl rfl) ⟨Below.refl _ _, rfl⟩
                refine DStepsR.cons (by decide) (fun Wd hd => ?_) ?_
                ·
                  exact DV.dr (dx_move rfl rfl) ⟨Below.refl _ _, rfl⟩
                refine DStepsR.cons (by decide) (fun Wd hd => ?_) ?_
                ·
                  have zh1 := h1
                  exact (dx_idxB st.i rfl ty_slice_45 rfl rfl zh1 hd (by omega) (at_map e72)).mono (fun v W' h => ⟨by rw [← h.1]; exact Below.refl _ _, by rw [← h.1]; exact h.2⟩)
                refine DStepsR.cons (by decide) (fun Wd hd => ?_) ?_
                ·
                  intro u20_4 p20_4
                  exact (dx_fldB 1 rfl ty_fld_49_2_2 rfl p20_4 (cs' := [.int .u8 r71.2.2]) rfl (Nat.succ_pos _)).mono (fun v W' h => ⟨by rw [← h.1]; exact Below.refl _ _, by rw [← h.1]; exact h.2⟩)
                refine DStepsR.cons (by decide) (fun Wd hd => ?_) ?_
                ·
                  intro u20_5 p20_5
                  exact DV.dr (dx_loadP rfl ty_one_5 rfl p20_5.ptr) ⟨Below.refl _ _, rfl⟩
                refine DStepsR.cons (by decide) (fun Wd hd => ?_) ?_
                ·
                  exact DR.mono (dx_cv rfl Try.func26 rfl rfl rfl (filled_v r71.2.2 Wd [] (LL.nil _))) (fun v W' ⟨h, hb⟩ => ⟨hb, (by rw [h]; exact rfl)⟩)
                refine DStepsR.cons (by decide) (fun Wd hd => ?_) ?_
                ·
                  have j15 := j15.below hd
                  have j16 := j16.below hd
                  exact DR.mono (dx_cv rfl Try.func11 rfl rfl rfl (writ_c0 (LL.below hL hd) j15 j16 hs (by omega) hwa hfu hdn hz (r71.2.1 % 8) r71.2.2 (by omega))) (fun v W' ⟨⟨s1', s2', hv, r1, r2⟩, hb⟩ => ⟨hb, _, hv, s1', s2', rfl, r1, r2⟩)
                refine DStepsR.cons (by decide) (fun Wd hd => ?_) ?_
                ·
                  intro u20_8 p20_8
                  exact DV.dr (dx_move rfl rfl) ⟨Below.refl _ _, p20_8⟩
                refine DStepsR.cons (by decide) (fun Wd hd => ?_) ?_
                ·
                  intro u20_9 p20_9
                  obtain ⟨d_, rfl, hd_⟩ := p20_9
                  exact DV.dr (dx_extract rfl rfl rfl) ⟨Below.refl _ _, hd_⟩
                refine DStepsR.cons (by decide) (fun Wd hd => ?_) ?_
                ·
                  intro u20_9 p20_9
                  obtain ⟨d_, rfl, hd_⟩ := p20_9
                  exact DV.dr (dx_extract rfl rfl rfl) ⟨Below.refl _ _, rfl⟩
                refine DStepsR.cons (by decide) (fun Wd hd => ?_) ?_
                ·
                  exact (dx_allocP (cs := [.slice none 0 0, .slice none 0 0, .int .i64 0, .bool false]) rfl ty_zero_25 rfl).mono (fun v W' h => ⟨h.1, (h.2 hd).newT rfl⟩)
                refine DStepsR.hit (fun Wd hd ut hut => ?_) ?_
                ·
                  intro u20_10 p20_10 u20_8 p20_8 u20_4 p20_4 u20_5 p20_5 u20_8 p20_8 u20_9 p20_9 u20_10 p20_10
                  obtain ⟨v20a, v20b, rfl, k20a, k20b⟩ := p20_10
                  exact (dx_storeT (vs := [v20a, v20b, .int .i64 (st.fuse - 1), .bool false]) rfl ty_size_25_4 rfl hut rfl rfl (oc_cons k20a.one (oc_cons k20b.one (oc_cons rfl (oc_cons rfl oc_nil)))) rfl).mono (fun v W' h => ⟨h.1, v20a, v20b, h.2, k20a.wr h.1 (by omega), k20b.wr h.1 (by omega)⟩)
                exact trivial
              ·
                intro W154 b155
                rintro _ - ⟨v20a, v20b, ⟨B20_12, rfl, q20_12, t20_12⟩, k20a, k20b⟩
                have k20_12 := t20_12.blk
                intro u20_4 p20_4
                intro u20_5 p20_5
                intro _ _
                intro _ _
                intro _ _
                intro _ _
                have n156 : W18.heap.size ≠ B20_12 := Nat.ne_of_lt (Nat.lt_of_lt_of_le k32.lt q20_12)
                have n157 : W30.heap.size ≠ B20_12 := Nat.ne_of_lt (Nat.lt_of_lt_of_le k35.lt q20_12)
                have n158 : W34.heap.size ≠ B20_12 := Nat.ne_of_lt (Nat.lt_of_lt_of_le k41.lt q20_12)
                have n159 : W40.heap.size ≠ B20_12 := Nat.ne_of_lt (Nat.lt_of_lt_of_le k58.lt q20_12)
                replace h1 := h1.more b155 q20_12
                replace h3 := h3.more b155 q20_12
                replace j15 := j15.more b155 q20_12
                replace j16 := j16.more b155 q20_12
                replace k32 := k32.below b155
                replace k35 := k35.below b155
                replace k41 := k41.below b155
                replace k58 := k58.below b155
                have l160 := Nat.le_trans hB.size q20_12
                replace hB := below_then hB b155
                replace hL := LL.below hL b155
                replace hL := LL.cons hL k20_12.lt
                replace k20a := k20a.offB k20_12 (by simp)
                replace k20b := k20b.offB k20_12 (by simp)
                refine WL.val (dx_assign rfl rfl) rfl rfl ?_
                refine WL.nil ?_
                refine hK140 ?_
                refine WC.seq fun K161 hK161 => ?_
                refine WC.region ?_
                refine WL.val (dx_move rfl rfl) rfl rfl ?_
                refine WL.val (dx_eql rfl rfl rfl) rfl rfl ?_
                refine WL.val (dx_assign rfl rfl) rfl rfl ?_
                refine WL.nil ?_
                refine hK161 ?_
                refine WC.seq fun K162 hK162 => ?_
                refine WC.seq fun K163 hK163 => ?_
                refine WC.region ?_
                refine WL.val (dx_move rfl rfl) rfl rfl ?_
                refine WL.val (dx_eql rfl rfl rfl) rfl rfl ?_
                refine WL.nil ?_
                refine hK163 ?_
                refine WC.condT rfl ?_
                refine WC.seq fun K164 hK164 => ?_
                refine WC.region ?_
                refine WL.val (dx_move rfl rfl) rfl rfl ?_
                refine WL.val (dx_move rfl rfl) rfl rfl ?_
                refine WL.val (dx_move rfl rfl) rfl rfl ?_
                refine WL.get (dx_idxF st.i rfl ty_slice_45 rfl rfl h1 (by omega) (at_map e72)) rfl rfl ?_
                rintro u165 _ ⟨rfl, p166⟩
                refine WL.get (dx_fldP 1 rfl ty_fld_49_2_2 rfl p166 (cs' := [.int .u8 r71.2.2]) rfl (Nat.succ_pos _)) rfl rfl ?_
                rintro u167 _ ⟨rfl, p168⟩
                refine WL.val (dx_loadP rfl ty_one_5 rfl p168) rfl rfl ?_
                refine WL.val (dx_idxA (o1 := ((r71.2.1 % 8).toNat)) rfl Try.underlying46 ty_size_5_1 rfl rfl (by omega) (by simp)) rfl rfl ?_
                refine WL.do (dx_store (cs' := encS ((lastS st.sure st.ws).set ((r71.2.1 % 8).toNat) r71.2.2)) (vs := [.int .u8 r71.2.2]) rfl ty_size_5_1 rfl rfl rfl (oc_cons rfl oc_nil) k41 rfl (by rw [encS_len, show (lastS st.sure st.ws).length = 8 from ((lastS_len _ _).trans hs)]; exact (by omega)) (setS (by rw [show (lastS st.sure st.ws).length = 8 from ((lastS_len _ _).trans hs)]; exact (by omega)))) rfl ?_
                rintro _ W169 ⟨k171, o170⟩
                replace k32 := k32.other o170 n44
                replace k35 := k35.other o170 n45
                replace k58 := k58.other o170 n54.symm
                replace k20_12 := k20_12.other o170 n158.symm
                clear k41
                replace h1 := h1.only o170 (.tail _ (.tail _ (.head _)))
                replace h3 := h3.only o170 (.tail _ (.tail _ (.head _)))
                replace j15 := j15.only o170 (.tail _ (.tail _ (.head _)))
                replace j16 := j16.only o170 (.tail _ (.tail _ (.head _)))
                replace k20a := k20a.only o170 (.tail _ (.tail _ (.head _)))
                replace k20b := k20b.only o170 (.tail _ (.tail _ (.head _)))
                replace p166 := p166.only o170 (.tail _ (.tail _ (.head _)))
                replace p168 := p168.only o170 (.tail _ (.tail _ (.head _)))
                replace hB := o170.below hB l46
                replace hL := LL.only hL o170
                refine WL.nil ?_
                refine hK164 ?_
                refine WC.region ?_
                refine WL.val (dx_move rfl rfl) rfl rfl ?_
                refine WL.val (dx_idxA (o1 := ((r71.2.1 % 8).toNat)) rfl Try.underlying47 ty_size_3_1 rfl rfl (by omega) (by simp)) rfl rfl ?_
                refine WL.val (dx_load rfl ty_one_3 rfl (k58.cell (k := ((r71.2.1 % 8).toNat)) (cellI (by rw [show (sinceS st.ws).length = 8 from (sinceS_len _)]; exact (by omega))))) rfl rfl ?_
                refine WL.val (dx_add (r := ((sinceS st.ws)[(r71.2.1 % 8).toNat]?.getD 0) + 1) rfl rfl rfl (wrap64_id (by have hsl := since_le (ws := st.ws) (a := (r71.2.1 % 8).toNat) (by omega); omega))) rfl rfl ?_
                refine WL.val (dx_idxA (o1 := ((r71.2.1 % 8).toNat)) rfl Try.underlying47 ty_size_3_1 rfl rfl (by omega) (by simp)) rfl rfl ?_
                refine WL.do (dx_store (cs' := encI ((sinceS st.ws).set ((r71.2.1 % 8).toNat) (((sinceS st.ws)[(r71.2.1 % 8).toNat]?.getD 0) + 1))) (vs := [.int .i64 (((sinceS st.ws)[(r71.2.1 % 8).toNat]?.getD 0) + 1)]) rfl ty_size_3_1 rfl rfl rfl (oc_cons rfl oc_nil) k58 rfl (by rw [encI_len, show (sinceS st.ws).length = 8 from (sinceS_len _)]; exact (by omega)) (setI (by rw [show (sinceS st.ws).length = 8 from (sinceS_len _)]; exact (by omega)))) rfl ?_
                rintro _ W172 ⟨k174, o173⟩
                replace k32 := k32.other o173 n52
                replace k35 := k35.other o173 n53
                replace k171 := k171.other o173 n54
                replace k20_12 := k20_12.other o173 n159.symm
                clear k58
                replace h1 := h1.only o173 (.tail _ (.head _))
                replace h3 := h3.only o173 (.tail _ (.head _))
                replace j15 := j15.only o173 (.tail _ (.head _))
                replace j16 := j16.only o173 (.tail _ (.head _))
                replace k20a := k20a.only o173 (.tail _ (.head _))
                replace k20b := k20b.only o173 (.tail _ (.head _))
                replace hB := o173.below hB l55
                replace hL := LL.only hL o173
                refine WL.nil ?_
                refine hK162 ?_
                refine WC.region ?_
                refine WL.val (dx_loadN rfl ty_agg_25_4 rfl k20_12.range rfl) rfl rfl ?_
                refine WL.do (dx_store (cs' := [v20a, v20b, .int .i64 (st.fuse - 1), .bool false]) (vs := [v20a, v20b, .int .i64 (st.fuse - 1), .bool false]) rfl ty_size_25_4 rfl rfl rfl (oc_cons k20a.one (oc_cons k20b.one (oc_cons rfl (oc_cons rfl oc_nil)))) k32 rfl (Nat.le_of_ble_eq_true rfl) rfl) rfl ?_
                rintro _ W175 ⟨k177, o176⟩
                replace k35 := k35.other o176 n38.symm
                replace k171 := k171.other o176 n44.symm
                replace k174 := k174.other o176 n52.symm
                replace k20_12 := k20_12.other o176 n156.symm
                clear k32
                replace h1 := h1.only o176 (.tail _ (.tail _ (.tail _ (.tail _ (.head _)))))
                replace h3 := h3.only o176 (.tail _ (.tail _ (.tail _ (.tail _ (.head _)))))
                replace j15 := j15.only o176 (.tail _ (.tail _ (.tail _ (.tail _ (.head _)))))
                replace j16 := j16.only o176 (.tail _ (.tail _ (.tail _ (.tail _ (.head _)))))
                replace k20a := k20a.only o176 (.tail _ (.tail _ (.tail _ (.tail _ (.head _)))))
                replace k20b := k20b.only o176 (.tail _ (.tail _ (.tail _ (.tail _ (.head _)))))
                replace hB := o176.below hB l23
                replace hL := LL.only hL o176
                refine WL.nil ?_
                refine hK68 ?_
                refine WC.region ?_
                refine WL.val (dx_move rfl rfl) rfl rfl ?_
                refine WL.val (dx_add (r := (st.i : Int) + 1) rfl rfl rfl (wrap64_id (by omega))) rfl rfl ?_
                refine WL.val (dx_assign rfl rfl) rfl rfl ?_
                refine WL.nil ?_
                replace k171 : Blk W175 W34.heap.size (encS (lastS st.sure (st.ws ++ [((r71.2.1 % 8), r71.2.2)]))) := by rw [lastS_app]; exact k171
                replace k174 : Blk W175 W40.heap.size (encI (sinceS (st.ws ++ [((r71.2.1 % 8), r71.2.2)]))) := by rw [sinceS_app]; exact k174
                replace hL := hL.less (fun x hx => (.tail _ hx))
                replace h1 := h1.less (fun x hx => (.tail _ hx))
                replace h3 := h3.less (fun x hx => (.tail _ hx))
                replace k20a := k20a.less (fun x hx => (.tail _ hx))
                replace k20b := k20b.less (fun x hx => (.tail _ hx))
                exact hK62 ⟨st.i + 1, st.sure, (st.ws ++ [((r71.2.1 % 8), r71.2.2)]), (st.fuse - 1), false, v20a, v20b⟩ ⟨(by show st.i + 1 ≤ ops.length; omega), hs, (by simp; omega), (app_all hwa (by omega)), (by show 0 ≤ st.fuse - 1 ∧ st.fuse - 1 ≤ 255; omega), hB, hL, h1, h3, k20a, k20b, k177, k35, k171, k174⟩ (by show ops.length - (st.i + 1) < ops.length - st.i; omega) (by repeat first | exact trivial | exact And.intro rfl trivial | refine And.intro rfl ?_ | refine And.intro (congrArg (fun z : Int => some (Value.int .i64 z)) (by omega)) ?_)
        ·
          replace c67 := bnot_f c67
          refine WC.exit ?_
          refine hK60 ?_
          refine WC.seq fun K178 hK178 => ?_
          refine WC.region ?_
          refine WL.val (dx_loadN rfl ty_agg_25_4 rfl k32.range rfl) rfl rfl ?_
          refine WL.val (dx_move rfl rfl) rfl rfl ?_
          refine WL.get (dx_cv rfl Try.func18 rfl rfl rfl (fall_c hL j15 j16 hs (by omega) hwa hfu h3 hfs)) rfl rfl ?_
          rintro _ W184 ⟨⟨u179, u180, rfl, j181, j182⟩, b183⟩
          replace h1 := h1.below b183
          replace h3 := h3.below b183
          replace j15 := j15.below b183
          replace j16 := j16.below b183
          replace k32 := k32.below b183
          replace k35 := k35.below b183
          replace k41 := k41.below b183
          replace k58 := k58.below b183
          replace hB := below_then hB b183
          replace hL := LL.below hL b183
          refine WL.val (dx_move rfl rfl) rfl rfl ?_
          refine WL.val (dx_extract rfl rfl rfl) rfl rfl ?_
          refine WL.val (dx_extract rfl rfl rfl) rfl rfl ?_
          refine WL.do (dx_store (cs' := [u179, u180, .int .i64 (-1), .bool false]) (vs := [u179, u180, .int .i64 (-1), .bool false]) rfl ty_size_25_4 rfl rfl rfl (oc_cons j181.one (oc_cons j182.one (oc_cons rfl (oc_cons rfl oc_nil)))) k32 rfl (Nat.le_of_ble_eq_true rfl) rfl) rfl ?_
          rintro _ W185 ⟨k187, o186⟩
          replace k35 := k35.other o186 n38.symm
          replace k41 := k41.other o186 n44.symm
          replace k58 := k58.other o186 n52.symm
          clear k32
          replace h1 := h1.only o186 (.tail _ (.tail _ (.tail _ (.head _))))
          replace h3 := h3.only o186 (.tail _ (.tail _ (.tail _ (.head _))))
          replace j15 := j15.only o186 (.tail _ (.tail _ (.tail _ (.head _))))
          replace j16 := j16.only o186 (.tail _ (.tail _ (.tail _ (.head _))))
          replace j181 := j181.only o186 (.tail _ (.tail _ (.tail _ (.head _))))
          replace j182 := j182.only o186 (.tail _ (.tail _ (.tail _ (.head _))))
          replace hB := o186.below hB l23
          replace hL := LL.only hL o186
          refine WL.val (dx_assign rfl rfl) rfl rfl ?_
          refine WL.nil ?_
          refine hK178 ?_
          refine WC.seq fun K188 hK188 => ?_
          refine WC.seq fun K189 hK189 => ?_
          refine WC.region ?_
          refine WL.val (dx_move rfl rfl) rfl rfl ?_
          refine WL.val (dx_neq rfl rfl rfl) rfl rfl ?_
          refine WL.val (dx_move rfl rfl) rfl rfl ?_
          refine WL.val (dx_move rfl rfl) rfl rfl ?_
          refine WL.val (dx_neq rfl rfl rfl) rfl rfl ?_
          refine WL.val (dx_pick rfl rfl rfl) rfl rfl ?_
          refine WL.nil ?_
          refine hK189 ?_
          refine WC.condF rfl ?_
          refine WC.skip ?_
          refine hK188 ?_
          refine WC.seq fun K190 hK190 => ?_
          refine WC.seq fun K191 hK191 => ?_
          refine WC.region ?_
          refine WL.val (dx_assign rfl rfl) rfl rfl ?_
          refine WL.nil ?_
          refine hK191 ?_
          refine WC.block ?_
          refine WC.loop (fun (a : Nat) => [(7, .pointer (some ⟨W18.heap.size, 0, none⟩)), (9, .pointer (some ⟨W30.heap.size, 0, none⟩)), (10, .pointer (some ⟨W34.heap.size, 0, none⟩)), (11, .pointer (some ⟨W40.heap.size, 0, none⟩)), (20, .int .i64 (a : Int))]) (fun (a : Nat) W => a ≤ 8 ∧ Below w.heap.size w W ∧ LL (W40.heap.size :: W34.heap.size :: W30.heap.size :: W18.heap.size :: L) W ∧ RdF 3 (W40.heap.size :: W34.heap.size :: W30.heap.size :: W18.heap.size :: L) W ov (ops.map encO) ∧ RdF 2 (W40.heap.size :: W34.heap.size :: W30.heap.size :: W18.heap.size :: L) W fv (fs.map encF) ∧ RdF 128 (W40.heap.size :: W34.heap.size :: W30.heap.size :: W18.heap.size :: L) W st.s1 (((st.sure).map fillS).map encS) ∧ RdF 129 (W40.heap.size :: W34.heap.size :: W30.heap.size :: W18.heap.size :: L) W st.s2 (((st.ws).map wrS).map encW) ∧ RdF 128 (W40.heap.size :: W34.heap.size :: W30.heap.size :: W18.heap.size :: L) W u179 ((finS fs st.sure st.ws).map encS) ∧ RdF 129 (W40.heap.size :: W34.heap.size :: W30.heap.size :: W18.heap.size :: L) W u180 (([] : List (Int × List Int)).map encW) ∧ Blk W W18.heap.size [u179, u180, .int .i64 (-1), .bool false] ∧ Blk W W30.heap.size (encS st.sure) ∧ Blk W W34.heap.size (encS (lastS st.sure st.ws)) ∧ Blk W W40.heap.size (encI (sinceS st.ws))) (fun (a : Nat) => 8 - a) 0 (by repeat first | exact trivial | exact And.intro rfl trivial | refine And.intro rfl ?_ | refine And.intro (congrArg (fun z : Int => some (Value.int .i64 z)) (by omega)) ?_) ⟨Nat.zero_le _, hB, hL, h1, h3, j15, j16, j181, j182, k187, k35, k41, k58⟩ ?_
          clear h1 h3 j15 j16 j181 j182 k187 k35 k41 k58 hB hL
          rintro K192 a W193 ⟨ha8, hB, hL, h1, h3, j15, j16, j181, j182, k187, k35, k41, k58⟩ hK192
          refine WC.seq fun K194 hK194 => ?_
          refine WC.seq fun K195 hK195 => ?_
          refine WC.region ?_
          refine WL.val (dx_move rfl rfl) rfl rfl ?_
          refine WL.val (dx_lss rfl rfl rfl) rfl rfl ?_
          refine WL.nil ?_
          refine hK195 ?_
          refine WC.cond rfl (fun c196 => ?_) (fun c196 => ?_)
          ·
            replace c196 := of_decide_eq_true c196
            refine WC.skip ?_
            refine hK194 ?_
            refine WC.seq fun K197 hK197 => ?_
            refine WC.block ?_
            refine WC.seq fun K198 hK198 => ?_
            refine WC.region ?_
            refine WL.val (dx_loadN rfl ty_agg_25_4 rfl k187.range rfl) rfl rfl ?_
            refine WL.val (dx_move rfl rfl) rfl rfl ?_
            refine WL.get (dx_cv rfl Try.func13 rfl rfl rfl (read_c hL j181 j182 (by unfold finS; rw [settle_len, List.length_map]; exact hs) _ (a := a) (by omega))) rfl rfl ?_
            rintro _ W203 ⟨⟨r199, e200, l201, rfl⟩, b202⟩
            replace h1 := h1.below b202
            replace h3 := h3.below b202
            replace j15 := j15.below b202
            replace j16 := j16.below b202
            replace j181 := j181.below b202
            replace j182 := j182.below b202
            replace k187 := k187.below b202
            replace k35 := k35.below b202
            replace k41 := k41.below b202
            replace k58 := k58.below b202
            replace hB := below_then hB b202
            replace hL := LL.below hL b202
            refine WL.val (dx_move rfl rfl) rfl rfl ?_
            refine WL.val (dx_extract rfl rfl rfl) rfl rfl ?_
            refine WL.val (dx_extract rfl rfl rfl) rfl rfl ?_
            refine WL.get (dx_alloc (cs := encS z0) rfl ty_zero_27 cells_z0) rfl rfl ?_
            rintro _ W204 ⟨rfl, k205, b206, z207⟩
            have n208 : W18.heap.size ≠ W203.heap.size := Nat.ne_of_lt k187.lt
            have n209 : W30.heap.size ≠ W203.heap.size := Nat.ne_of_lt k35.lt
            have n210 : W34.heap.size ≠ W203.heap.size := Nat.ne_of_lt k41.lt
            have n211 : W40.heap.size ≠ W203.heap.size := Nat.ne_of_lt k58.lt
            have l212 := hB.size
            replace h1 := h1.more b206 (Nat.le_refl _)
            replace h3 := h3.more b206 (Nat.le_refl _)
            replace j15 := j15.more b206 (Nat.le_refl _)
            replace j16 := j16.more b206 (Nat.le_refl _)
            replace j181 := j181.more b206 (Nat.le_refl _)
            replace j182 := j182.more b206 (Nat.le_refl _)
            replace k187 := k187.below b206
            replace k35 := k35.below b206
            replace k41 := k41.below b206
            replace k58 := k58.below b206
            replace hB := below_then hB b206
            replace hL := LL.more hL z207
            refine WL.do (dx_storeW (vs := (encS r199)) rfl ty_size_27_128 rfl rfl rfl (oc_S r199) k205 (by rw [encS_len]; exact l201) (by rw [encS_len]; exact z0_len)) rfl ?_
            rintro _ W213 ⟨k215, o214⟩
            replace k187 := k187.other o214 n208
            replace k35 := k35.other o214 n209
            replace k41 := k41.other o214 n210
            replace k58 := k58.other o214 n211
            clear k205
            replace h1 := h1.only o214 (.head _)
            replace h3 := h3.only o214 (.head _)
            replace j15 := j15.only o214 (.head _)
            replace j16 := j16.only o214 (.head _)
            replace j181 := j181.only o214 (.head _)
            replace j182 := j182.only o214 (.head _)
            replace hB := o214.below hB l212
            replace hL := LL.only hL o214
            refine WL.val (dx_assign rfl rfl) rfl rfl ?_
            refine WL.nil ?_
            refine hK198 ?_
            refine WC.seq fun K216 hK216 => ?_
            refine WC.seq fun K217 hK217 => ?_
            obtain ⟨b218, hb218⟩ : ∃ b, b = (decide ((sinceS st.ws)[a]?.getD 0 = 0)) := ⟨_, rfl⟩
            refine WC.drawM 16 [(some 132, .is (.int .i64 0)), (some 133, .is (.bool false)), (some 134, .is (.bool false)), (some 135, .is (.int .i64 (a : Int))), (some 136, .is (.pointer (some ⟨W40.heap.size, a, none⟩))), (some 137, .is (.int .i64 ((sinceS st.ws)[a]?.getD 0))), (some 138, .is (.bool (decide ((sinceS st.ws)[a]?.getD 0 = 0)))), (some 139, .is (.bool b218)), (some 140, .is (bif b218 then .agg (encS r199).toArray else undef)), (some 141, .is (bif b218 then .int .i64 (a : Int) else undef)), (some 142, .is (bif b218 then .pointer (some ⟨W30.heap.size, a, none⟩) else undef)), (some 143, .is (bif b218 then .int .u8 (st.sure[a]?.getD 0) else undef)), (some 144, .is (bif b218 then .agg (encS (fillS (st.sure[a]?.getD 0))).toArray else undef)), (some 145, .is (bif b218 then .bool (!(decide (r199 = (fillS (st.sure[a]?.getD 0))))) else undef)), (some 146, .is (.bool (b218 && (!(decide (r199 = (fillS (st.sure[a]?.getD 0)))))))), (some 147, .is (.bool (b218 && (!(decide (r199 = (fillS (st.sure[a]?.getD 0))))))))] [[], [0], [1], [2], [3, 2], [4, 2], [5, 2], [6, 2, 2], [7], [7], [9, 7], [10, 7], [11, 7, 7], [8, 12, 7], [7, 13, 2], [2, 14]] (by kernel_rfl) (by kernel_rfl) (by kernel_rfl) (by kernel_rfl) (by kernel_rfl) (by kernel_rfl) (by kernel_rfl) (by exact trivial) ?_ ?_
            ·
              refine DSteps.cons (fun Wd hd => ?_) ?_
              ·
                exact DV.dr (dx_move rfl rfl) ⟨Below.refl _ _, rfl⟩
              refine DSteps.cons (fun Wd hd => ?_) ?_
              ·
                exact DV.dr (dx_neq rfl rfl rfl) ⟨Below.refl _ _, rfl⟩
              refine DSteps.cons (fun Wd hd => ?_) ?_
              ·
                exact DV.dr (dx_move rfl rfl) ⟨Below.refl _ _, rfl⟩
              refine DSteps.cons (fun Wd hd => ?_) ?_
              ·
                exact DV.dr (dx_move rfl rfl) ⟨Below.refl _ _, rfl⟩
              refine DSteps.cons (fun Wd hd => ?_) ?_
              ·
                exact DV.dr (dx_idxA (o1 := a) rfl Try.underlying47 ty_size_3_1 rfl rfl (by omega) (by simp)) ⟨Below.refl _ _, rfl⟩
              refine DSteps.cons (fun Wd hd => ?_) ?_
              ·
                have k58 := k58.below hd
                exact DV.dr (dx_load rfl ty_one_3 rfl (k58.cell (k := a) (cellI (by rw [show (sinceS st.ws).length = 8 from (sinceS_len _)]; exact (by omega))))) ⟨Below.refl _ _, rfl⟩
              refine DSteps.cons (fun Wd hd => ?_) ?_
              ·
                exact DV.dr (dx_eql rfl rfl rfl) ⟨Below.refl _ _, rfl⟩
              refine DSteps.cons (fun Wd hd => ?_) ?_
              ·
                exact DV.dr (dx_move rfl rfl) ⟨Below.refl _ _, by rw [hb218]; rfl⟩
              refine DSteps.cons (fun Wd hd => ?_) ?_
              ·
                cases b218
                ·
                  exact DV.dr (dv_off rfl) ⟨Below.refl _ _, rfl⟩
                ·
                  have k215 := k215.below hd
                  exact DV.dr (dx_loadN rfl ty_agg_27_128 rfl k215.range (by rw [encS_len]; exact l201)) ⟨Below.refl _ _, rfl⟩
              refine DSteps.cons (fun Wd hd => ?_) ?_
              ·
                cases b218
                ·
                  exact DV.dr (dv_off rfl) ⟨Below.refl _ _, rfl⟩
                ·
                  exact DV.dr (dx_move rfl rfl) ⟨Below.refl _ _, rfl⟩
              refine DSteps.cons (fun Wd hd => ?_) ?_
              ·
                cases b218
                ·
                  exact DV.dr (dv_off rfl) ⟨Below.refl _ _, rfl⟩
                ·
                  exact DV.dr (dx_idxA (o1 := a) rfl Try.underlying46 ty_size_5_1 rfl rfl (by first | omega | (have hq_ := of_decide_eq_true hb218.symm; omega)) (by simp)) ⟨Below.refl _ _, rfl⟩
              refine DSteps.cons (fun Wd hd => ?_) ?_
              ·
                cases b218
                ·
                  exact DV.dr (dv_off rfl) ⟨Below.refl _ _, rfl⟩
                ·
                  have k35 := k35.below hd
                  exact DV.dr (dx_load rfl ty_one_5 rfl (k35.cell (k := a) (cellS (by rw [show st.sure.length = 8 from hs]; exact (by first | omega | (have hq_ := of_decide_eq_true hb218.symm; omega)))))) ⟨Below.refl _ _, rfl⟩
              refine DSteps.cons (fun Wd hd => ?_) ?_
              ·
                cases b218
                ·
                  exact DV.dr (dv_off rfl) ⟨Below.refl _ _, rfl⟩
                ·
                  exact DR.mono (dx_cv rfl Try.func26 rfl rfl rfl (filled_v (st.sure[a]?.getD 0) Wd [] (LL.nil _))) (fun v W' ⟨h, hb⟩ => ⟨hb, (by rw [h]; exact rfl)⟩)
              refine DSteps.cons (fun Wd hd => ?_) ?_
              ·
                cases b218
                ·
                  exact DV.dr (dv_off rfl) ⟨Below.refl _ _, rfl⟩
                ·
                  exact DV.dr (dx_neqA (K := .u8) (xs := r199) (ys := (fillS (st.sure[a]?.getD 0))) rfl Try.underlying27 Try.underlying5 ty_size_5_1 (by kernel_rfl) rfl rfl l201 (fillS_len (st.sure[a]?.getD 0))) ⟨Below.refl _ _, rfl⟩
              refine DSteps.cons (fun Wd hd => ?_) ?_
              ·
                cases b218
                ·
                  exact DV.dr (dx_pick rfl rfl rfl) ⟨Below.refl _ _, rfl⟩
                ·
                  exact DV.dr (dx_pick rfl rfl rfl) ⟨Below.refl _ _, rfl⟩
              refine DSteps.cons (fun Wd hd => ?_) ?_
              ·
                exact DV.dr (dx_pick rfl rfl rfl) ⟨Below.refl _ _, rfl⟩
              exact trivial
            ·
              intro W219 b220
              replace h1 := h1.below b220
              replace h3 := h3.below b220
              replace j15 := j15.below b220
              replace j16 := j16.below b220
              replace j181 := j181.below b220
              replace j182 := j182.below b220
              replace k187 := k187.below b220
              replace k35 := k35.below b220
              replace k41 := k41.below b220
              replace k58 := k58.below b220
              replace k215 := k215.below b220
              replace hB := below_then hB b220
              replace hL := LL.below hL b220
              refine WL.nil ?_
              refine hK217 ?_
              refine WC.cond rfl (fun c221 => ?_) (fun c221 => ?_)
              ·
                obtain ⟨g222, g223⟩ := band_t c221
                replace g223 := bnot_t g223
                replace g223 := of_decide_eq_false g223
                exact absurd (end0 hs (by omega) (of_decide_eq_true (by rw [← hb218]; exact g222)) e200) g223
              ·
                refine WC.skip ?_
                refine hK216 ?_
                refine WC.seq fun K224 hK224 => ?_
                refine WC.seq fun K225 hK225 => ?_
                refine WC.region ?_
                refine WL.val (dx_move rfl rfl) rfl rfl ?_
                refine WL.val (dx_idxA (o1 := a) rfl Try.underlying47 ty_size_3_1 rfl rfl (by omega) (by simp)) rfl rfl ?_
                refine WL.val (dx_load rfl ty_one_3 rfl (k58.cell (k := a) (cellI (by rw [show (sinceS st.ws).length = 8 from (sinceS_len _)]; exact (by omega))))) rfl rfl ?_
                refine WL.val (dx_neq rfl rfl rfl) rfl rfl ?_
                refine WL.nil ?_
                refine hK225 ?_
                refine WC.cond rfl (fun c226 => ?_) (fun c226 => ?_)
                ·
                  replace c226 := bnot_t c226
                  replace c226 := of_decide_eq_false c226
                  refine WC.exit ?_
                  refine hK197 ?_
                  refine WC.region ?_
                  refine WL.val (dx_move rfl rfl) rfl rfl ?_
                  refine WL.val (dx_add (r := (a : Int) + 1) rfl rfl rfl (wrap64_id (by omega))) rfl rfl ?_
                  refine WL.val (dx_assign rfl rfl) rfl rfl ?_
                  refine WL.nil ?_
                  replace hL := hL.less (fun x hx => (.tail _ hx))
                  replace h1 := h1.less (fun x hx => (.tail _ hx))
                  replace h3 := h3.less (fun x hx => (.tail _ hx))
                  replace j15 := j15.less (fun x hx => (.tail _ hx))
                  replace j16 := j16.less (fun x hx => (.tail _ hx))
                  replace j181 := j181.less (fun x hx => (.tail _ hx))
                  replace j182 := j182.less (fun x hx => (.tail _ hx))
                  exact hK192 (a + 1) ⟨(by omega), hB, hL, h1, h3, j15, j16, j181, j182, k187, k35, k41, k58⟩ (by omega) (by repeat first | exact trivial | exact And.intro rfl trivial | refine And.intro rfl ?_ | refine And.intro (congrArg (fun z : Int => some (Value.int .i64 z)) (by omega)) ?_)
                ·
                  replace c226 := bnot_f c226
                  replace c226 := of_decide_eq_true c226
                  obtain ⟨k, hk, hrk⟩ := end1 hs (by omega) c226 e200
                  refine WC.skip ?_
                  refine hK224 ?_
                  refine WC.seq fun K227 hK227 => ?_
                  refine WC.region ?_
                  refine WL.val (dx_assign rfl rfl) rfl rfl ?_
                  refine WL.nil ?_
                  refine hK227 ?_
                  refine WC.seq fun K228 hK228 => ?_
                  refine WC.block ?_
                  refine WC.loop (fun (i1 : Nat) => [(7, .pointer (some ⟨W18.heap.size, 0, none⟩)), (9, .pointer (some ⟨W30.heap.size, 0, none⟩)), (10, .pointer (some ⟨W34.heap.size, 0, none⟩)), (11, .pointer (some ⟨W40.heap.size, 0, none⟩)), (20, .int .i64 (a : Int)), (21, .pointer (some ⟨W203.heap.size, 0, none⟩)), (23, .int .i64 (i1 : Int))]) (fun (i1 : Nat) W => i1 ≤ 128 ∧ Below w.heap.size w W ∧ LL (W203.heap.size :: W40.heap.size :: W34.heap.size :: W30.heap.size :: W18.heap.size :: L) W ∧ RdF 3 (W203.heap.size :: W40.heap.size :: W34.heap.size :: W30.heap.size :: W18.heap.size :: L) W ov (ops.map encO) ∧ RdF 2 (W203.heap.size :: W40.heap.size :: W34.heap.size :: W30.heap.size :: W18.heap.size :: L) W fv (fs.map encF) ∧ RdF 128 (W203.heap.size :: W40.heap.size :: W34.heap.size :: W30.heap.size :: W18.heap.size :: L) W st.s1 (((st.sure).map fillS).map encS) ∧ RdF 129 (W203.heap.size :: W40.heap.size :: W34.heap.size :: W30.heap.size :: W18.heap.size :: L) W st.s2 (((st.ws).map wrS).map encW) ∧ RdF 128 (W203.heap.size :: W40.heap.size :: W34.heap.size :: W30.heap.size :: W18.heap.size :: L) W u179 ((finS fs st.sure st.ws).map encS) ∧ RdF 129 (W203.heap.size :: W40.heap.size :: W34.heap.size :: W30.heap.size :: W18.heap.size :: L) W u180 (([] : List (Int × List Int)).map encW) ∧ Blk W W18.heap.size [u179, u180, .int .i64 (-1), .bool false] ∧ Blk W W30.heap.size (encS st.sure) ∧ Blk W W34.heap.size (encS (lastS st.sure st.ws)) ∧ Blk W W40.heap.size (encI (sinceS st.ws)) ∧ Blk W W203.heap.size (encS r199)) (fun (i1 : Nat) => 128 - i1) 0 (by repeat first | exact trivial | exact And.intro rfl trivial | refine And.intro rfl ?_ | refine And.intro (congrArg (fun z : Int => some (Value.int .i64 z)) (by omega)) ?_) ⟨Nat.zero_le _, hB, hL, h1, h3, j15, j16, j181, j182, k187, k35, k41, k58, k215⟩ ?_
                  clear h1 h3 j15 j16 j181 j182 k187 k35 k41 k58 k215 hB hL
                  rintro K229 i1 W230 ⟨hi1, hB, hL, h1, h3, j15, j16, j181, j182, k187, k35, k41, k58, k215⟩ hK229
                  refine WC.seq fun K231 hK231 => ?_
                  refine WC.seq fun K232 hK232 => ?_
                  obtain ⟨b233, hb233⟩ : ∃ b, b = (decide ((i1 : Int) < 128)) := ⟨_, rfl⟩
                  refine WC.drawM 11 [(some 152, .is (.int .i64 (i1 : Int))), (some 153, .is (.bool (decide ((i1 : Int) < 128)))), (some 154, .is (.bool b233)), (some 155, .is (bif b233 then .int .i64 (i1 : Int) else undef)), (some 156, .is (bif b233 then .pointer (some ⟨W203.heap.size, i1, none⟩) else undef)), (some 157, .is (bif b233 then .int .u8 (r199[i1]?.getD 0) else undef)), (some 158, .is (bif b233 then .int .i64 (a : Int) else undef)), (some 159, .is (bif b233 then .pointer (some ⟨W34.heap.size, a, none⟩) else undef)), (some 160, .is (bif b233 then .int .u8 ((lastS st.sure st.ws)[a]?.getD 0) else undef)), (some 161, .is (bif b233 then .bool (decide (r199[i1]?.getD 0 = (lastS st.sure st.ws)[a]?.getD 0)) else undef)), (some 162, .is (.bool (b233 && (decide (r199[i1]?.getD 0 = (lastS st.sure st.ws)[a]?.getD 0)))))] [[], [0], [1], [2], [3, 2], [4, 2], [2], [6, 2], [7, 2], [5, 8, 2], [2, 9]] (by kernel_rfl) (by kernel_rfl) (by kernel_rfl) (by kernel_rfl) (by kernel_rfl) (by kernel_rfl) (by kernel_rfl) (by exact trivial) ?_ ?_
                  ·
                    refine DSteps.cons (fun Wd hd => ?_) ?_
                    ·
                      exact DV.dr (dx_move rfl rfl) ⟨Below.refl _ _, rfl⟩
                    refine DSteps.cons (fun Wd hd => ?_) ?_
                    ·
                      exact DV.dr (dx_lss rfl rfl rfl) ⟨Below.refl _ _, rfl⟩
                    refine DSteps.cons (fun Wd hd => ?_) ?_
                    ·
                      exact DV.dr (dx_move rfl rfl) ⟨Below.refl _ _, by rw [hb233]; rfl⟩
                    refine DSteps.cons (fun Wd hd => ?_) ?_
                    ·
                      cases b233
                      ·
                        exact DV.dr (dv_off rfl) ⟨Below.refl _ _, rfl⟩
                      ·
                        exact DV.dr (dx_move rfl rfl) ⟨Below.refl _ _, rfl⟩
                    refine DSteps.cons (fun Wd hd => ?_) ?_
                    ·
                      cases b233
                      ·
                        exact DV.dr (dv_off rfl) ⟨Below.refl _ _, rfl⟩
                      ·
                        exact DV.dr (dx_idxA (o1 := i1) rfl Try.underlying27 ty_size_5_1 rfl rfl (by first | omega | (have hq_ := of_decide_eq_true hb233.symm; omega)) (by simp)) ⟨Below.refl _ _, rfl⟩
                    refine DSteps.cons (fun Wd hd => ?_) ?_
                    ·
                      cases b233
                      ·
                        exact DV.dr (dv_off rfl) ⟨Below.refl _ _, rfl⟩
                      ·
                        have k215 := k215.below hd
                        exact DV.dr (dx_load rfl ty_one_5 rfl (k215.cell (k := i1) (cellS (by rw [show r199.length = 128 from l201]; exact (by first | omega | (have hq_ := of_decide_eq_true hb233.symm; omega)))))) ⟨Below.refl _ _, rfl⟩
                    refine DSteps.cons (fun Wd hd => ?_) ?_
                    ·
                      cases b233
                      ·
                        exact DV.dr (dv_off rfl) ⟨Below.refl _ _, rfl⟩
                      ·
                        exact DV.dr (dx_move rfl rfl) ⟨Below.refl _ _, rfl⟩
                    refine DSteps.cons (fun Wd hd => ?_) ?_
                    ·
                      cases b233
                      ·
                        exact DV.dr (dv_off rfl) ⟨Below.refl _ _, rfl⟩
                      ·
                        exact DV.dr (dx_idxA (o1 := a) rfl Try.underlying46 ty_size_5_1 rfl rfl (by first | omega | (have hq_ := of_decide_eq_true hb233.symm; omega)) (by simp)) ⟨Below.refl _ _, rfl⟩
                    refine DSteps.cons (fun Wd hd => ?_) ?_
                    ·
                      cases b233
                      ·
                        exact DV.dr (dv_off rfl) ⟨Below.refl _ _, rfl⟩
                      ·
                        have k41 := k41.below hd
                        exact DV.dr (dx_load rfl ty_one_5 rfl (k41.cell (k := a) (cellS (by rw [show (lastS st.sure st.ws).length = 8 from ((lastS_len _ _).trans hs)]; exact (by first | omega | (have hq_ := of_decide_eq_true hb233.symm; omega)))))) ⟨Below.refl _ _, rfl⟩
                    refine DSteps.cons (fun Wd hd => ?_) ?_
                    ·
                      cases b233
                      ·
                        exact DV.dr (dv_off rfl) ⟨Below.refl _ _, rfl⟩
                      ·
                        exact DV.dr (dx_eql rfl rfl rfl) ⟨Below.refl _ _, rfl⟩
                    refine DSteps.cons (fun Wd hd => ?_) ?_
                    ·
                      cases b233
                      ·
                        exact DV.dr (dx_pick rfl rfl rfl) ⟨Below.refl _ _, rfl⟩
                      ·
                        exact DV.dr (dx_pick rfl rfl rfl) ⟨Below.refl _ _, rfl⟩
                    exact trivial
                  ·
                    intro W234 b235
                    replace h1 := h1.below b235
                    replace h3 := h3.below b235
                    replace j15 := j15.below b235
                    replace j16 := j16.below b235
                    replace j181 := j181.below b235
                    replace j182 := j182.below b235
                    replace k187 := k187.below b235
                    replace k35 := k35.below b235
                    replace k41 := k41.below b235
                    replace k58 := k58.below b235
                    replace k215 := k215.below b235
                    replace hB := below_then hB b235
                    replace hL := LL.below hL b235
                    refine WL.nil ?_
                    refine hK232 ?_
                    refine WC.cond rfl (fun c236 => ?_) (fun c236 => ?_)
                    ·
                      obtain ⟨g237, g238⟩ := band_t c236
                      replace g238 := of_decide_eq_true g238
                      refine WC.skip ?_
                      refine hK231 ?_
                      refine WC.block ?_
                      refine WC.region ?_
                      refine WL.val (dx_move rfl rfl) rfl rfl ?_
                      refine WL.val (dx_add (r := (i1 : Int) + 1) rfl rfl rfl (wrap64_id (by omega))) rfl rfl ?_
                      refine WL.val (dx_assign rfl rfl) rfl rfl ?_
                      refine WL.nil ?_
                      have hlt : (i1 : Int) < 128 := of_decide_eq_true (by rw [← hb233]; exact g237)
                      exact hK229 (i1 + 1) ⟨(by omega), hB, hL, h1, h3, j15, j16, j181, j182, k187, k35, k41, k58, k215⟩ (by omega) (by repeat first | exact trivial | exact And.intro rfl trivial | refine And.intro rfl ?_ | refine And.intro (congrArg (fun z : Int => some (Value.int .i64 z)) (by omega)) ?_)
                    ·
                      refine WC.exit ?_
                      refine hK228 ?_
                      refine WC.seq fun K239 hK239 => ?_
                      refine WC.block ?_
                      refine WC.loop (fun (i2 : Nat) => [(7, .pointer (some ⟨W18.heap.size, 0, none⟩)), (9, .pointer (some ⟨W30.heap.size, 0, none⟩)), (10, .pointer (some ⟨W34.heap.size, 0, none⟩)), (11, .pointer (some ⟨W40.heap.size, 0, none⟩)), (20, .int .i64 (a : Int)), (21, .pointer (some ⟨W203.heap.size, 0, none⟩)), (23, .int .i64 (i2 : Int))]) (fun (i2 : Nat) W => i2 ≤ 128 ∧ k ≤ i2 ∧ Below w.heap.size w W ∧ LL (W203.heap.size :: W40.heap.size :: W34.heap.size :: W30.heap.size :: W18.heap.size :: L) W ∧ RdF 3 (W203.heap.size :: W40.heap.size :: W34.heap.size :: W30.heap.size :: W18.heap.size :: L) W ov (ops.map encO) ∧ RdF 2 (W203.heap.size :: W40.heap.size :: W34.heap.size :: W30.heap.size :: W18.heap.size :: L) W fv (fs.map encF) ∧ RdF 128 (W203.heap.size :: W40.heap.size :: W34.heap.size :: W30.heap.size :: W18.heap.size :: L) W st.s1 (((st.sure).map fillS).map encS) ∧ RdF 129 (W203.heap.size :: W40.heap.size :: W34.heap.size :: W30.heap.size :: W18.heap.size :: L) W st.s2 (((st.ws).map wrS).map encW) ∧ RdF 128 (W203.heap.size :: W40.heap.size :: W34.heap.size :: W30.heap.size :: W18.heap.size :: L) W u179 ((finS fs st.sure st.ws).map encS) ∧ RdF 129 (W203.heap.size :: W40.heap.size :: W34.heap.size :: W30.heap.size :: W18.heap.size :: L) W u180 (([] : List (Int × List Int)).map encW) ∧ Blk W W18.heap.size [u179, u180, .int .i64 (-1), .bool false] ∧ Blk W W30.heap.size (encS st.sure) ∧ Blk W W34.heap.size (encS (lastS st.sure st.ws)) ∧ Blk W W40.heap.size (encI (sinceS st.ws)) ∧ Blk W W203.heap.size (encS r199)) (fun (i2 : Nat) => 128 - i2) i1 (by repeat first | exact trivial | exact And.intro rfl trivial | refine And.intro rfl ?_ | refine And.intro (congrArg (fun z : Int => some (Value.int .i64 z)) (by omega)) ?_) ⟨hi1, (exit_first hb233 c236 hrk hk), hB, hL, h1, h3, j15, j16, j181, j182, k187, k35, k41, k58, k215⟩ ?_
                      clear h1 h3 j15 j16 j181 j182 k187 k35 k41 k58 k215 hB hL
                      rintro K240 i2 W241 ⟨hi2, hk2, hB, hL, h1, h3, j15, j16, j181, j182, k187, k35, k41, k58, k215⟩ hK240
                      refine WC.seq fun K242 hK242 => ?_
                      refine WC.seq fun K243 hK243 => ?_
                      obtain ⟨b244, hb244⟩ : ∃ b, b = (decide ((i2 : Int) < 128)) := ⟨_, rfl⟩
                      refine WC.drawM 11 [(some 165, .is (.int .i64 (i2 : Int))), (some 166, .is (.bool (decide ((i2 : Int) < 128)))), (some 167, .is (.bool b244)), (some 168, .is (bif b244 then .int .i64 (i2 : Int) else undef)), (some 169, .is (bif b244 then .pointer (some ⟨W203.heap.size, i2, none⟩) else undef)), (some 170, .is (bif b244 then .int .u8 (r199[i2]?.getD 0) else undef)), (some 171, .is (bif b244 then .int .i64 (a : Int) else undef)), (some 172, .is (bif b244 then .pointer (some ⟨W30.heap.size, a, none⟩) else undef)), (some 173, .is (bif b244 then .int .u8 (st.sure[a]?.getD 0) else undef)), (some 174, .is (bif b244 then .bool (decide (r199[i2]?.getD 0 = st.sure[a]?.getD 0)) else undef)), (some 175, .is (.bool (b244 && (decide (r199[i2]?.getD 0 = st.sure[a]?.getD 0)))))] [[], [0], [1], [2], [3, 2], [4, 2], [2], [6, 2], [7, 2], [5, 8, 2], [2, 9]] (by kernel_rfl) (by kernel_rfl) (by kernel_rfl) (by kernel_rfl) (by kernel_rfl) (by kernel_rfl) (by kernel_rfl) (by exact trivial) ?_ ?_
                      ·
                        refine DSteps.cons (fun Wd hd => ?_) ?_
                        ·
                          exact DV.dr (dx_move rfl rfl) ⟨Below.refl _ _, rfl⟩
                        refine DSteps.cons (fun Wd hd => ?_) ?_
                        ·
                          exact DV.dr (dx_lss rfl rfl rfl) ⟨Below.refl _ _, rfl⟩
                        refine DSteps.cons (fun Wd hd => ?_) ?_
                        ·
                          exact DV.dr (dx_move rfl rfl) ⟨Below.refl _ _, by rw [hb244]; rfl⟩
                        refine DSteps.cons (fun Wd hd => ?_) ?_
                        ·
                          cases b244
                          ·
                            exact DV.dr (dv_off rfl) ⟨Below.refl _ _, rfl⟩
                          ·
                            exact DV.dr (dx_move rfl rfl) ⟨Below.refl _ _, rfl⟩
                        refine DSteps.cons (fun Wd hd => ?_) ?_
                        ·
                          cases b244
                          ·
                            exact DV.dr (dv_off rfl) ⟨Below.refl _ _, rfl⟩
                          ·
                            exact DV.dr (dx_idxA (o1 := i2) rfl Try.underlying27 ty_size_5_1 rfl rfl (by first | omega | (have hq_ := of_decide_eq_true hb244.symm; omega)) (by simp)) ⟨Below.refl _ _, rfl⟩
                        refine DSteps.cons (fun Wd hd => ?_) ?_
                        ·
                          cases b244
                          ·
                            exact DV.dr (dv_off rfl) ⟨Below.refl _ _, rfl⟩
                          ·
                            have k215 := k215.below hd
                            exact DV.dr (dx_load rfl ty_one_5 rfl (k215.cell (k := i2) (cellS (by rw [show r199.length = 128 from l201]; exact (by first | omega | (have hq_ := of_decide_eq_true hb244.symm; omega)))))) ⟨Below.refl _ _, rfl⟩
                        refine DSteps.cons (fun Wd hd => ?_) ?_
                        ·
                          cases b244
                          ·
                            exact DV.dr (dv_off rfl) ⟨Below.refl _ _, rfl⟩
                          ·
                            exact DV.dr (dx_move rfl rfl) ⟨Below.refl _ _, rfl⟩
                        refine DSteps.cons (fun Wd hd => ?_) ?_
                        ·
                          cases b244
                          ·
                            exact DV.dr (dv_off rfl) ⟨Below.refl _ _, rfl⟩
                          ·
                            exact DV.dr (dx_idxA (o1 := a) rfl Try.underlying46 ty_size_5_1 rfl rfl (by first | omega | (have hq_ := of_decide_eq_true hb244.symm; omega)) (by simp)) ⟨Below.refl _ _, rfl⟩
                        refine DSteps.cons (fun Wd hd => ?_) ?_
                        ·
                          cases b244
                          ·
                            exact DV.dr (dv_off rfl) ⟨Below.refl _ _, rfl⟩
                          ·
                            have k35 := k35.below hd
                            exact DV.dr (dx_load rfl ty_one_5 rfl (k35.cell (k := a) (cellS (by rw [show st.sure.length = 8 from hs]; exact (by first | omega | (have hq_ := of_decide_eq_true hb244.symm; omega)))))) ⟨Below.refl _ _, rfl⟩
                        refine DSteps.cons (fun Wd hd => ?_) ?_
                        ·
                          cases b244
                          ·
                            exact DV.dr (dv_off rfl) ⟨Below.refl _ _, rfl⟩
                          ·
                            exact DV.dr (dx_eql rfl rfl rfl) ⟨Below.refl _ _, rfl⟩
                        refine DSteps.cons (fun Wd hd => ?_) ?_
                        ·
                          cases b244
                          ·
                            exact DV.dr (dx_pick rfl rfl rfl) ⟨Below.refl _ _, rfl⟩
                          ·
                            exact DV.dr (dx_pick rfl rfl rfl) ⟨Below.refl _ _, rfl⟩
                        exact trivial
                      ·
                        intro W245 b246
                        replace h1 := h1.below b246
                        replace h3 := h3.below b246
                        replace j15 := j15.below b246
                        replace j16 := j16.below b246
                        replace j181 := j181.below b246
                        replace j182 := j182.below b246
                        replace k187 := k187.below b246
                        replace k35 := k35.below b246
                        replace k41 := k41.below b246
                        replace k58 := k58.below b246
                        replace k215 := k215.below b246
                        replace hB := below_then hB b246
                        replace hL := LL.below hL b246
                        refine WL.nil ?_
                        refine hK243 ?_
                        refine WC.cond rfl (fun c247 => ?_) (fun c247 => ?_)
                        ·
                          obtain ⟨g248, g249⟩ := band_t c247
                          replace g249 := of_decide_eq_true g249
                          refine WC.skip ?_
                          refine hK242 ?_
                          refine WC.block ?_
                          refine WC.region ?_
                          refine WL.val (dx_move rfl rfl) rfl rfl ?_
                          refine WL.val (dx_add (r := (i2 : Int) + 1) rfl rfl rfl (wrap64_id (by omega))) rfl rfl ?_
                          refine WL.val (dx_assign rfl rfl) rfl rfl ?_
                          refine WL.nil ?_
                          have hlt : (i2 : Int) < 128 := of_decide_eq_true (by rw [← hb244]; exact g248)
                          exact hK240 (i2 + 1) ⟨(by omega), (by omega), hB, hL, h1, h3, j15, j16, j181, j182, k187, k35, k41, k58, k215⟩ (by omega) (by repeat first | exact trivial | exact And.intro rfl trivial | refine And.intro rfl ?_ | refine And.intro (congrArg (fun z : Int => some (Value.int .i64 z)) (by omega)) ?_)
                        ·
                          refine WC.exit ?_
                          refine hK239 ?_
                          refine WC.seq fun K250 hK250 => ?_
                          refine WC.region ?_
                          refine WL.val (dx_move rfl rfl) rfl rfl ?_
                          refine WL.val (dx_lss rfl rfl rfl) rfl rfl ?_
                          refine WL.nil ?_
                          refine hK250 ?_
                          refine WC.cond rfl (fun c251 => ?_) (fun c251 => ?_)
                          ·
                            replace c251 := of_decide_eq_true c251
                            exact absurd c251 (exit_second hb244 c247 hrk hk hk2)
                          ·
                            replace c251 := of_decide_eq_false c251
                            refine WC.skip ?_
                            refine hK197 ?_
                            refine WC.region ?_
                            refine WL.val (dx_move rfl rfl) rfl rfl ?_
                            refine WL.val (dx_add (r := (a : Int) + 1) rfl rfl rfl (wrap64_id (by omega))) rfl rfl ?_
                            refine WL.val (dx_assign rfl rfl) rfl rfl ?_
                            refine WL.nil ?_
                            replace hL := hL.less (fun x hx => (.tail _ hx))
                            replace h1 := h1.less (fun x hx => (.tail _ hx))
                            replace h3 := h3.less (fun x hx => (.tail _ hx))
                            replace j15 := j15.less (fun x hx => (.tail _ hx))
                            replace j16 := j16.less (fun x hx => (.tail _ hx))
                            replace j181 := j181.less (fun x hx => (.tail _ hx))
                            replace j182 := j182.less (fun x hx => (.tail _ hx))
                            exact hK192 (a + 1) ⟨(by omega), hB, hL, h1, h3, j15, j16, j181, j182, k187, k35, k41, k58⟩ (by omega) (by repeat first | exact trivial | exact And.intro rfl trivial | refine And.intro rfl ?_ | refine And.intro (congrArg (fun z : Int => some (Value.int .i64 z)) (by omega)) ?_)
          ·
            replace c196 := of_decide_eq_false c196
            refine WC.exit ?_
            refine hK190 ?_
            refine WC.seq fun K252 hK252 => ?_
            refine WC.region ?_
            refine WL.val (dx_assign rfl rfl) rfl rfl ?_
            refine WL.nil ?_
            refine hK252 ?_
            refine WC.ret fun a_ ha_ => ?_
            exact hQ (cv_ret1 rfl (.tmp rfl) rfl hB ha_)
      ·
        replace g66 := of_decide_eq_false g66
        refine WL.off rfl rfl rfl ?_
        refine WL.off rfl rfl rfl ?_
        refine WL.val (dx_pick rfl rfl rfl) rfl rfl ?_
        refine WL.val (dx_move rfl rfl) rfl rfl ?_
        refine WL.off rfl rfl rfl ?_
        refine WL.off rfl rfl rfl ?_
        refine WL.val (dx_pick rfl rfl rfl) rfl rfl ?_
        refine WL.nil ?_
        refine hK65 ?_
        refine WC.condF rfl ?_
        refine WC.exit ?_
        refine hK60 ?_
        refine WC.seq fun K253 hK253 => ?_
        refine WC.region ?_
        refine WL.val (dx_loadN rfl ty_agg_25_4 rfl k32.range rfl) rfl rfl ?_
        refine WL.val (dx_move rfl rfl) rfl rfl ?_
        refine WL.get (dx_cv rfl Try.func18 rfl rfl rfl (fall_c hL j15 j16 hs (by omega) hwa hfu h3 hfs)) rfl rfl ?_
        rintro _ W259 ⟨⟨u254, u255, rfl, j256, j257⟩, b258⟩
        replace h1 := h1.below b258
        replace h3 := h3.below b258
        replace j15 := j15.below b258
        replace j16 := j16.below b258
        replace k32 := k32.below b258
        replace k35 := k35.below b258
        replace k41 := k41.below b258
        replace k58 := k58.below b258
        replace hB := below_then hB b258
        replace hL := LL.below hL b258
        refine WL.val (dx_move rfl rfl) rfl rfl ?_
        refine WL.val (dx_extract rfl rfl rfl) rfl rfl ?_
        refine WL.val (dx_extract rfl rfl rfl) rfl rfl ?_
        refine WL.do (dx_store (cs' := [u254, u255, .int .i64 (-1), .bool false]) (vs := [u254, u255, .int .i64 (-1), .bool false]) rfl ty_size_25_4 rfl rfl rfl (oc_cons j256.one (oc_cons j257.one (oc_cons rfl (oc_cons rfl oc_nil)))) k32 rfl (Nat.le_of_ble_eq_true rfl) rfl) rfl ?_
        rintro _ W260 ⟨k262, o261⟩
        replace k35 := k35.other o261 n38.symm
        replace k41 := k41.other o261 n44.symm
        replace k58 := k58.other o261 n52.symm
        clear k32
        replace h1 := h1.only o261 (.tail _ (.tail _ (.tail _ (.head _))))
        replace h3 := h3.only o261 (.tail _ (.tail _ (.tail _ (.head _))))
        replace j15 := j15.only o261 (.tail _ (.tail _ (.tail _ (.head _))))
        replace j16 := j16.only o261 (.tail _ (.tail _ (.tail _ (.head _))))
        replace j256 := j256.only o261 (.tail _ (.tail _ (.tail _ (.head _))))
        replace j257 := j257.only o261 (.tail _ (.tail _ (.tail _ (.head _))))
        replace hB := o261.below hB l23
        replace hL := LL.only hL o261
        refine WL.val (dx_assign rfl rfl) rfl rfl ?_
        refine WL.nil ?_
        refine hK253 ?_
        refine WC.seq fun K263 hK263 => ?_
        refine WC.seq fun K264 hK264 => ?_
        refine WC.region ?_
        refine WL.val (dx_move rfl rfl) rfl rfl ?_
        refine WL.val (dx_neq rfl rfl rfl) rfl rfl ?_
        refine WL.val (dx_move rfl rfl) rfl rfl ?_
        refine WL.val (dx_move rfl rfl) rfl rfl ?_
        refine WL.val (dx_neq rfl rfl rfl) rfl rfl ?_
        refine WL.val (dx_pick rfl rfl rfl) rfl rfl ?_
        refine WL.nil ?_
        refine hK264 ?_
        refine WC.condF rfl ?_
        refine WC.skip ?_
        refine hK263 ?_
        refine WC.seq fun K265 hK265 => ?_
        refine WC.seq fun K266 hK266 => ?_
        refine WC.region ?_
        refine WL.val (dx_assign rfl rfl) rfl rfl ?_
        refine WL.nil ?_
        refine hK266 ?_
        refine WC.block ?_
        refine WC.loop (fun (a : Nat) => [(7, .pointer (some ⟨W18.heap.size, 0, none⟩)), (9, .pointer (some ⟨W30.heap.size, 0, none⟩)), (10, .pointer (some ⟨W34.heap.size, 0, none⟩)), (11, .pointer (some ⟨W40.heap.size, 0, none⟩)), (20, .int .i64 (a : Int))]) (fun (a : Nat) W => a ≤ 8 ∧ Below w.heap.size w W ∧ LL (W40.heap.size :: W34.heap.size :: W30.heap.size :: W18.heap.size :: L) W ∧ RdF 3 (W40.heap.size :: W34.heap.size :: W30.heap.size :: W18.heap.size :: L) W ov (ops.map encO) ∧ RdF 2 (W40.heap.size :: W34.heap.size :: W30.heap.size :: W18.heap.size :: L) W fv (fs.map encF) ∧ RdF 128 (W40.heap.size :: W34.heap.size :: W30.heap.size :: W18.heap.size :: L) W st.s1 (((st.sure).map fillS).map encS) ∧ RdF 129 (W40.heap.size :: W34.heap.size :: W30.heap.size :: W18.heap.size :: L) W st.s2 (((st.ws).map wrS).map encW) ∧ RdF 128 (W40.heap.size :: W34.heap.size :: W30.heap.size :: W18.heap.size :: L) W u254 ((finS fs st.sure st.ws).map encS) ∧ RdF 129 (W40.heap.size :: W34.heap.size :: W30.heap.size :: W18.heap.size :: L) W u255 (([] : List (Int × List Int)).map encW) ∧ Blk W W18.heap.size [u254, u255, .int .i64 (-1), .bool false] ∧ Blk W W30.heap.size (encS st.sure) ∧ Blk W W34.heap.size (encS (lastS st.sure st.ws)) ∧ Blk W W40.heap.size (encI (sinceS st.ws))) (fun (a : Nat) => 8 - a) 0 (by repeat first | exact trivial | exact And.intro rfl trivial | refine And.intro rfl ?_ | refine And.intro (congrArg (fun z : Int => some (Value.int .i64 z)) (by omega)) ?_) ⟨Nat.zero_le _, hB, hL, h1, h3, j15, j16, j256, j257, k262, k35, k41, k58⟩ ?_
        clear h1 h3 j15 j16 j256 j257 k262 k35 k41 k58 hB hL
        rintro K267 a W268 ⟨ha8, hB, hL, h1, h3, j15, j16, j256, j257, k262, k35, k41, k58⟩ hK267
        refine WC.seq fun K269 hK269 => ?_
        refine WC.seq fun K270 hK270 => ?_
        refine WC.region ?_
        refine WL.val (dx_move rfl rfl) rfl rfl ?_
        refine WL.val (dx_lss rfl rfl rfl) rfl rfl ?_
        refine WL.nil ?_
        refine hK270 ?_
        refine WC.cond rfl (fun c271 => ?_) (fun c271 => ?_)
        ·
          replace c271 := of_decide_eq_true c271
          refine WC.skip ?_
          refine hK269 ?_
          refine WC.seq fun K272 hK272 => ?_
          refine WC.block ?_
          refine WC.seq fun K273 hK273 => ?_
          refine WC.region ?_
          refine WL.val (dx_loadN rfl ty_agg_25_4 rfl k262.range rfl) rfl rfl ?_
          refine WL.val (dx_move rfl rfl) rfl rfl ?_
          refine WL.get (dx_cv rfl Try.func13 rfl rfl rfl (read_c hL j256 j257 (by unfold finS; rw [settle_len, List.length_map]; exact hs) _ (a := a) (by omega))) rfl rfl ?_
          rintro _ W278 ⟨⟨r274, e275, l276, rfl⟩, b277⟩
          replace h1 := h1.below b277
          replace h3 := h3.below b277
          replace j15 := j15.below b277
          replace j16 := j16.below b277
          replace j256 := j256.below b277
          replace j257 := j257.below b277
          replace k262 := k262.below b277
          replace k35 := k35.below b277
          replace k41 := k41.below b277
          replace k58 := k58.below b277
          replace hB := below_then hB b277
          replace hL := LL.below hL b277
          refine WL.val (dx_move rfl rfl) rfl rfl ?_
          refine WL.val (dx_extract rfl rfl rfl) rfl rfl ?_
          refine WL.val (dx_extract rfl rfl rfl) rfl rfl ?_
          refine WL.get (dx_alloc (cs := encS z0) rfl ty_zero_27 cells_z0) rfl rfl ?_
          rintro _ W279 ⟨rfl, k280, b281, z282⟩
          have n283 : W18.heap.size ≠ W278.heap.size := Nat.ne_of_lt k262.lt
          have n284 : W30.heap.size ≠ W278.heap.size := Nat.ne_of_lt k35.lt
          have n285 : W34.heap.size ≠ W278.heap.size := Nat.ne_of_lt k41.lt
          have n286 : W40.heap.size ≠ W278.heap.size := Nat.ne_of_lt k58.lt
          have l287 := hB.size
          replace h1 := h1.more b281 (Nat.le_refl _)
          replace h3 := h3.more b281 (Nat.le_refl _)
          replace j15 := j15.more b281 (Nat.le_refl _)
          replace j16 := j16.more b281 (Nat.le_refl _)
          replace j256 := j256.more b281 (Nat.le_refl _)
          replace j257 := j257.more b281 (Nat.le_refl _)
          replace k262 := k262.below b281
          replace k35 := k35.below b281
          replace k41 := k41.below b281
          replace k58 := k58.below b281
          replace hB := below_then hB b281
          replace hL := LL.more hL z282
          refine WL.do (dx_storeW (vs := (encS r274)) rfl ty_size_27_128 rfl rfl rfl (oc_S r274) k280 (by rw [encS_len]; exact l276) (by rw [encS_len]; exact z0_len)) rfl ?_
          rintro _ W288 ⟨k290, o289⟩
          replace k262 := k262.other o289 n283
          replace k35 := k35.other o289 n284
          replace k41 := k41.other o289 n285
          replace k58 := k58.other o289 n286
          clear k280
          replace h1 := h1.only o289 (.head _)
          replace h3 := h3.only o289 (.head _)
          replace j15 := j15.only o289 (.head _)
          replace j16 := j16.only o289 (.head _)
          replace j256 := j256.only o289 (.head _)
          replace j257 := j257.only o289 (.head _)
          replace hB := o289.below hB l287
          replace hL := LL.only hL o289
          refine WL.val (dx_assign rfl rfl) rfl rfl ?_
          refine WL.nil ?_
          refine hK273 ?_
          refine WC.seq fun K291 hK291 => ?_
          refine WC.seq fun K292 hK292 => ?_
          obtain ⟨b293, hb293⟩ : ∃ b, b = (decide ((sinceS st.ws)[a]?.getD 0 = 0)) := ⟨_, rfl⟩
          refine WC.drawM 16 [(some 132, .is (.int .i64 0)), (some 133, .is (.bool false)), (some 134, .is (.bool false)), (some 135, .is (.int .i64 (a : Int))), (some 136, .is (.pointer (some ⟨W40.heap.size, a, none⟩))), (some 137, .is (.int .i64 ((sinceS st.ws)[a]?.getD 0))), (some 138, .is (.bool (decide ((sinceS st.ws)[a]?.getD 0 = 0)))), (some 139, .is (.bool b293)), (some 140, .is (bif b293 then .agg (encS r274).toArray else undef)), (some 141, .is (bif b293 then .int .i64 (a : Int) else undef)), (some 142, .is (bif b293 then .pointer (some ⟨W30.heap.size, a, none⟩) else undef)), (some 143, .is (bif b293 then .int .u8 (st.sure[a]?.getD 0) else undef)), (some 144, .is (bif b293 then .agg (encS (fillS (st.sure[a]?.getD 0))).toArray else undef)), (some 145, .is (bif b293 then .bool (!(decide (r274 = (fillS (st.sure[a]?.getD 0))))) else undef)), (some 146, .is (.bool (b293 && (!(decide (r274 = (fillS (st.sure[a]?.getD 0)))))))), (some 147, .is (.bool (b293 && (!(decide (r274 = (fillS (st.sure[a]?.getD 0))))))))] [[], [0], [1], [2], [3, 2], [4, 2], [5, 2], [6, 2, 2], [7], [7], [9, 7], [10, 7], [11, 7, 7], [8, 12, 7], [7, 13, 2], [2, 14]] (by kernel_rfl) (by kernel_rfl) (by kernel_rfl) (by kernel_rfl) (by kernel_rfl) (by kernel_rfl) (by kernel_rfl) (by exact trivial) ?_ ?_
          ·
            refine DSteps.cons (fun Wd hd => ?_) ?_
            ·
              exact DV.dr (dx_move rfl rfl) ⟨Below.refl _ _, rfl⟩
            refine DSteps.cons (fun Wd hd => ?_) ?_
            ·
              exact DV.dr (dx_neq rfl rfl rfl) ⟨Below.refl _ _, rfl⟩
            refine DSteps.cons (fun Wd hd => ?_) ?_
            ·
              exact DV.dr (dx_move rfl rfl) ⟨Below.refl _ _, rfl⟩
            refine DSteps.cons (fun Wd hd => ?_) ?_
            ·
              exact DV.dr (dx_move rfl rfl) ⟨Below.refl _ _, rfl⟩
            refine DSteps.cons (fun Wd hd => ?_) ?_
            ·
              exact DV.dr (dx_idxA (o1 := a) rfl Try.underlying47 ty_size_3_1 rfl rfl (by omega) (by simp)) ⟨Below.refl _ _, rfl⟩
            refine DSteps.cons (fun Wd hd => ?_) ?_
            ·
              have k58 := k58.below hd
              exact DV.dr (dx_load rfl ty_one_3 rfl (k58.cell (k := a) (cellI (by rw [show (sinceS st.ws).length = 8 from (sinceS_len _)]; exact (by omega))))) ⟨Below.refl _ _, rfl⟩
            refine DSteps.cons (fun Wd hd => ?_) ?_
            ·
              exact DV.dr (dx_eql rfl rfl rfl) ⟨Below.refl _ _, rfl⟩
            refine DSteps.cons (fun Wd hd => ?_) ?_
            ·
              exact DV.dr (dx_move rfl rfl) ⟨Below.refl _ _, by rw [hb293]; rfl⟩
            refine DSteps.cons (fun Wd hd => ?_) ?_
            ·
              cases b293
              ·
                exact DV.dr (dv_off rfl) ⟨Below.refl _ _, rfl⟩
              ·
                have k290 := k290.below hd
                exact DV.dr (dx_loadN rfl ty_agg_27_128 rfl k290.range (by rw [encS_len]; exact l276)) ⟨Below.refl _ _, rfl⟩
            refine DSteps.cons (fun Wd hd => ?_) ?_
            ·
              cases b293
              ·
                exact DV.dr (dv_off rfl) ⟨Below.refl _ _, rfl⟩
              ·
                exact DV.dr (dx_move rfl rfl) ⟨Below.refl _ _, rfl⟩
            refine DSteps.cons (fun Wd hd => ?_) ?_
            ·
              cases b293
              ·
                exact DV.dr (dv_off rfl) ⟨Below.refl _ _, rfl⟩
              ·
                exact DV.dr (dx_idxA (o1 := a) rfl Try.underlying46 ty_size_5_1 rfl rfl (by first | omega | (have hq_ := of_decide_eq_true hb293.symm; omega)) (by simp)) ⟨Below.refl _ _, rfl⟩
            refine DSteps.cons (fun Wd hd => ?_) ?_
            ·
              cases b293
              ·
                exact DV.dr (dv_off rfl) ⟨Below.refl _ _, rfl⟩
              ·
                have k35 := k35.below hd
                exact DV.dr (dx_load rfl ty_one_5 rfl (k35.cell (k := a) (cellS (by rw [show st.sure.length = 8 from hs]; exact (by first | omega | (have hq_ := of_decide_eq_true hb293.symm; omega)))))) ⟨Below.refl _ _, rfl⟩
            refine DSteps.cons (fun Wd hd => ?_) ?_
            ·
              cases b293
              ·
                exact DV.dr (dv_off rfl) ⟨Below.refl _ _, rfl⟩
              ·
                exact DR.mono (dx_cv rfl Try.func26 rfl rfl rfl (filled_v (st.sure[a]?.getD 0) Wd [] (LL.nil _))) (fun v W' ⟨h, hb⟩ => ⟨hb, (by rw [h]; exact rfl)⟩)
            refine DSteps.cons (fun Wd hd => ?_) ?_
            ·
              cases b293
              ·
                exact DV.dr (dv_off rfl) ⟨Below.refl _ _, rfl⟩
              ·
                exact DV.dr (dx_neqA (K := .u8) (xs := r274) (ys := (fillS (st.sure[a]?.getD 0))) rfl Try.underlying27 Try.underlying5 ty_size_5_1 (by kernel_rfl) rfl rfl l276 (fillS_len (st.sure[a]?.getD 0))) ⟨Below.refl _ _, rfl⟩
            refine DSteps.cons (fun Wd hd => ?_) ?_
            ·
              cases b293
              ·
                exact DV.dr (dx_pick rfl rfl rfl) ⟨Below.refl _ _, rfl⟩
              ·
                exact DV.dr (dx_pick rfl rfl rfl) ⟨Below.refl _ _, rfl⟩
            refine DSteps.cons (fun Wd hd => ?_) ?_
            ·
              exact DV.dr (dx_pick rfl rfl rfl) ⟨Below.refl _ _, rfl⟩
            exact trivial
          ·
            intro W294 b295
            replace h1 := h1.below b295
            replace h3 := h3.below b295
            replace j15 := j15.below b295
            replace j16 := j16.below b295
            replace j256 := j256.below b295
            replace j257 := j257.below b295
            replace k262 := k262.below b295
            replace k35 := k35.below b295
            replace k41 := k41.below b295
            replace k58 := k58.below b295
            replace k290 := k290.below b295
            replace hB := below_then hB b295
            replace hL := LL.below hL b295
            refine WL.nil ?_
            refine hK292 ?_
            refine WC.cond rfl (fun c296 => ?_) (fun c296 => ?_)
            ·
              obtain ⟨g297, g298⟩ := band_t c296
              replace g298 := bnot_t g298
              replace g298 := of_decide_eq_false g298
              exact absurd (end0 hs (by omega) (of_decide_eq_true (by rw [← hb293]; exact g297)) e275) g298
            ·
              refine WC.skip ?_
              refine hK291 ?_
              refine WC.seq fun K299 hK299 => ?_
              refine WC.seq fun K300 hK300 => ?_
              refine WC.region ?_
              refine WL.val (dx_move rfl rfl) rfl rfl ?_
              refine WL.val (dx_idxA (o1 := a) rfl Try.underlying47 ty_size_3_1 rfl rfl (by omega) (by simp)) rfl rfl ?_
              refine WL.val (dx_load rfl ty_one_3 rfl (k58.cell (k := a) (cellI (by rw [show (sinceS st.ws).length = 8 from (sinceS_len _)]; exact (by omega))))) rfl rfl ?_
              refine WL.val (dx_neq rfl rfl rfl) rfl rfl ?_
              refine WL.nil ?_
              refine hK300 ?_
              refine WC.cond rfl (fun c301 => ?_) (fun c301 => ?_)
              ·
                replace c301 := bnot_t c301
                replace c301 := of_decide_eq_false c301
                refine WC.exit ?_
                refine hK272 ?_
                refine WC.region ?_
                refine WL.val (dx_move rfl rfl) rfl rfl ?_
                refine WL.val (dx_add (r := (a : Int) + 1) rfl rfl rfl (wrap64_id (by omega))) rfl rfl ?_
                refine WL.val (dx_assign rfl rfl) rfl rfl ?_
                refine WL.nil ?_
                replace hL := hL.less (fun x hx => (.tail _ hx))
                replace h1 := h1.less (fun x hx => (.tail _ hx))
                replace h3 := h3.less (fun x hx => (.tail _ hx))
                replace j15 := j15.less (fun x hx => (.tail _ hx))
                replace j16 := j16.less (fun x hx => (.tail _ hx))
                replace j256 := j256.less (fun x hx => (.tail _ hx))
                replace j257 := j257.less (fun x hx => (.tail _ hx))
                exact hK267 (a + 1) ⟨(by omega), hB, hL, h1, h3, j15, j16, j256, j257, k262, k35, k41, k58⟩ (by omega) (by repeat first | exact trivial | exact And.intro rfl trivial | refine And.intro rfl ?_ | refine And.intro (congrArg (fun z : Int => some (Value.int .i64 z)) (by omega)) ?_)
              ·
                replace c301 := bnot_f c301
                replace c301 := of_decide_eq_true c301
                obtain ⟨k, hk, hrk⟩ := end1 hs (by omega) c301 e275
                refine WC.skip ?_
                refine hK299 ?_
                refine WC.seq fun K302 hK302 => ?_
                refine WC.region ?_
                refine WL.val (dx_assign rfl rfl) rfl rfl ?_
                refine WL.nil ?_
                refine hK302 ?_
                refine WC.seq fun K303 hK303 => ?_
                refine WC.block ?_
                refine WC.loop (fun (i1 : Nat) => [(7, .pointer (some ⟨W18.heap.size, 0, none⟩)), (9, .pointer (some ⟨W30.heap.size, 0, none⟩)), (10, .pointer (some ⟨W34.heap.size, 0, none⟩)), (11, .pointer (some ⟨W40.heap.size, 0, none⟩)), (20, .int .i64 (a : Int)), (21, .pointer (some ⟨W278.heap.size, 0, none⟩)), (23, .int .i64 (i1 : Int))]) (fun (i1 : Nat) W => i1 ≤ 128 ∧ Below w.heap.size w W ∧ LL (W278.heap.size :: W40.heap.size :: W34.heap.size :: W30.heap.size :: W18.heap.size :: L) W ∧ RdF 3 (W278.heap.size :: W40.heap.size :: W34.heap.size :: W30.heap.size :: W18.heap.size :: L) W ov (ops.map encO) ∧ RdF 2 (W278.heap.size :: W40.heap.size :: W34.heap.size :: W30.heap.size :: W18.heap.size :: L) W fv (fs.map encF) ∧ RdF 128 (W278.heap.size :: W40.heap.size :: W34.heap.size :: W30.heap.size :: W18.heap.size :: L) W st.s1 (((st.sure).map fillS).map encS) ∧ RdF 129 (W278.heap.size :: W40.heap.size :: W34.heap.size :: W30.heap.size :: W18.heap.size :: L) W st.s2 (((st.ws).map wrS).map encW) ∧ RdF 128 (W278.heap.size :: W40.heap.size :: W34.heap.size :: W30.heap.size :: W18.heap.size :: L) W u254 ((finS fs st.sure st.ws).map encS) ∧ RdF 129 (W278.heap.size :: W40.heap.size :: W34.heap.size :: W30.heap.size :: W18.heap.size :: L) W u255 (([] : List (Int × List Int)).map encW) ∧ Blk W W18.heap.size [u254, u255, .int .i64 (-1), .bool false] ∧ Blk W W30.heap.size (encS st.sure) ∧ Blk W W34.heap.size (encS (lastS st.sure st.ws)) ∧ Blk W W40.heap.size (encI (sinceS st.ws)) ∧ Blk W W278.heap.size (encS r274)) (fun (i1 : Nat) => 128 - i1) 0 (by repeat first | exact trivial | exact And.intro rfl trivial | refine And.intro rfl ?_ | refine And.intro (congrArg (fun z : Int => some (Value.int .i64 z)) (by omega)) ?_) ⟨Nat.zero_le _, hB, hL, h1, h3, j15, j16, j256, j257, k262, k35, k41, k58, k290⟩ ?_
                clear h1 h3 j15 j16 j256 j257 k262 k35 k41 k58 k290 hB hL
                rintro K304 i1 W305 ⟨hi1, hB, hL, h1, h3, j15, j16, j256, j257, k262, k35, k41, k58, k290⟩ hK304
                refine WC.seq fun K306 hK306 => ?_
                refine WC.seq fun K307 hK307 => ?_
                obtain ⟨b308, hb308⟩ : ∃ b, b = (decide ((i1 : Int) < 128)) := ⟨_, rfl⟩
                refine WC.drawM 11 [(some 152, .is (.int .i64 (i1 : Int))), (some 153, .is (.bool (decide ((i1 : Int) < 128)))), (some 154, .is (.bool b308)), (some 155, .is (bif b308 then .int .i64 (i1 : Int) else undef)), (some 156, .is (bif b308 then .pointer (some ⟨W278.heap.size, i1, none⟩) else undef)), (some 157, .is (bif b308 then .int .u8 (r274[i1]?.getD 0) else undef)), (some 158, .is (bif b308 then .int .i64 (a : Int) else undef)), (some 159, .is (bif b308 then .pointer (some ⟨W34.heap.size, a, none⟩) else undef)), (some 160, .is (bif b308 then .int .u8 ((lastS st.sure st.ws)[a]?.getD 0) else undef)), (some 161, .is (bif b308 then .bool (decide (r274[i1]?.getD 0 = (lastS st.sure st.ws)[a]?.getD 0)) else undef)), (some 162, .is (.bool (b308 && (decide (r274[i1]?.getD 0 = (lastS st.sure st.ws)[a]?.getD 0)))))] [[], [0], [1], [2], [3, 2], [4, 2], [2], [6, 2], [7, 2], [5, 8, 2], [2, 9]] (by kernel_rfl) (by kernel_rfl) (by kernel_rfl) (by kernel_rfl) (by kernel_rfl) (by kernel_rfl) (by kernel_rfl) (by exact trivial) ?_ ?_
                ·
                  refine DSteps.cons (fun Wd hd => ?_) ?_
                  ·
                    exact DV.dr (dx_move rfl rfl) ⟨Below.refl _ _, rfl⟩
                  refine DSteps.cons (fun Wd hd => ?_) ?_
                  ·
                    exact DV.dr (dx_lss rfl rfl rfl) ⟨Below.refl _ _, rfl⟩
                  refine DSteps.cons (fun Wd hd => ?_) ?_
                  ·
                    exact DV.dr (dx_move rfl rfl) ⟨Below.refl _ _, by rw [hb308]; rfl⟩
                  refine DSteps.cons (fun Wd hd => ?_) ?_
                  ·
                    cases b308
                    ·
                      exact DV.dr (dv_off rfl) ⟨Below.refl _ _, rfl⟩
                    ·
                      exact DV.dr (dx_move rfl rfl) ⟨Below.refl _ _, rfl⟩
                  refine DSteps.cons (fun Wd hd => ?_) ?_
                  ·
                    cases b308
                    ·
                      exact DV.dr (dv_off rfl) ⟨Below.refl _ _, rfl⟩
                    ·
                      exact DV.dr (dx_idxA (o1 := i1) rfl Try.underlying27 ty_size_5_1 rfl rfl (by first | omega | (have hq_ := of_decide_eq_true hb308.symm; omega)) (by simp)) ⟨Below.refl _ _, rfl⟩
                  refine DSteps.cons (fun Wd hd => ?_) ?_
                  ·
                    cases b308
                    ·
                      exact DV.dr (dv_off rfl) ⟨Below.refl _ _, rfl⟩
                    ·
                      have k290 := k290.below hd
                      exact DV.dr (dx_load rfl ty_one_5 rfl (k290.cell (k := i1) (cellS (by rw [show r274.length = 128 from l276]; exact (by first | omega | (have hq_ := of_decide_eq_true hb308.symm; omega)))))) ⟨Below.refl _ _, rfl⟩
                  refine DSteps.cons (fun Wd hd => ?_) ?_
                  ·
                    cases b308
                    ·
                      exact DV.dr (dv_off rfl) ⟨Below.refl _ _, rfl⟩
                    ·
                      exact DV.dr (dx_move rfl rfl) ⟨Below.refl _ _, rfl⟩
                  refine DSteps.cons (fun Wd hd => ?_) ?_
                  ·
                    cases b308
                    ·
                      exact DV.dr (dv_off rfl) ⟨Below.refl _ _, rfl⟩
                    ·
                      exact DV.dr (dx_idxA (o1 := a) rfl Try.underlying46 ty_size_5_1 rfl rfl (by first | omega | (have hq_ := of_decide_eq_true hb308.symm; omega)) (by simp)) ⟨Below.refl _ _, rfl⟩
                  refine DSteps.cons (fun Wd hd => ?_) ?_
                  ·
                    cases b308
                    ·
                      exact DV.dr (dv_off rfl) ⟨Below.refl _ _, rfl⟩
                    ·
                      have k41 := k41.below hd
                      exact DV.dr (dx_load rfl ty_one_5 rfl (k41.cell (k := a) (cellS (by rw [show (lastS st.sure st.ws).length = 8 from ((lastS_len _ _).trans hs)]; exact (by first | omega | (have hq_ := of_decide_eq_true hb308.symm; omega)))))) ⟨Below.refl _ _, rfl⟩
                  refine DSteps.cons (fun Wd hd => ?_) ?_
                  ·
                    cases b308
                    ·
                      exact DV.dr (dv_off rfl) ⟨Below.refl _ _, rfl⟩
                    ·
                      exact DV.dr (dx_eql rfl rfl rfl) ⟨Below.refl _ _, rfl⟩
                  refine DSteps.cons (fun Wd hd => ?_) ?_
                  ·
                    cases b308
                    ·
                      exact DV.dr (dx_pick rfl rfl rfl) ⟨Below.refl _ _, rfl⟩
                    ·
                      exact DV.dr (dx_pick rfl rfl rfl) ⟨Below.refl _ _, rfl⟩
                  exact trivial
                ·
                  intro W309 b310
                  replace h1 := h1.below b310
                  replace h3 := h3.below b310
                  replace j15 := j15.below b310
                  replace j16 := j16.below b310
                  replace j256 := j256.below b310
                  replace j257 := j257.below b310
                  replace k262 := k262.below b310
                  replace k35 := k35.below b310
                  replace k41 := k41.below b310
                  replace k58 := k58.below b310
                  replace k290 := k290.below b310
                  replace hB := below_then hB b310
                  replace hL := LL.below hL b310
                  refine WL.nil ?_
                  refine hK307 ?_
                  refine WC.cond rfl (fun c311 => ?_) (fun c311 => ?_)
                  ·
                    obtain ⟨g312, g313⟩ := band_t c311
                    replace g313 := of_decide_eq_true g313
                    refine WC.skip ?_
                    refine hK306 ?_
                    refine WC.block ?_
                    refine WC.region ?_
                    refine WL.val (dx_move rfl rfl) rfl rfl ?_
                    refine WL.val (dx_add (r := (i1 : Int) + 1) rfl rfl rfl (wrap64_id (by omega))) rfl rfl ?_
                    refine WL.val (dx_assign rfl rfl) rfl rfl ?_
                    refine WL.nil ?_
                    have hlt : (i1 : Int) < 128 := of_decide_eq_true (by rw [← hb308]; exact g312)
                    exact hK304 (i1 + 1) ⟨(by omega), hB, hL, h1, h3, j15, j16, j256, j257, k262, k35, k41, k58, k290⟩ (by omega) (by repeat first | exact trivial | exact And.intro rfl trivial | refine And.intro rfl ?_ | refine And.intro (congrArg (fun z : Int => some (Value.int .i64 z)) (by omega)) ?_)
                  ·
                    refine WC.exit ?_
                    refine hK303 ?_
                    refine WC.seq fun K314 hK314 => ?_
                    refine WC.block ?_
                    refine WC.loop (fun (i2 : Nat) => [(7, .pointer (some ⟨W18.heap.size, 0, none⟩)), (9, .pointer (some ⟨W30.heap.size, 0, none⟩)), (10, .pointer (some ⟨W34.heap.size, 0, none⟩)), (11, .pointer (some ⟨W40.heap.size, 0, none⟩)), (20, .int .i64 (a : Int)), (21, .pointer (some ⟨W278.heap.size, 0, none⟩)), (23, .int .i64 (i2 : Int))]) (fun (i2 : Nat) W => i2 ≤ 128 ∧ k ≤ i2 ∧ Below w.heap.size w W ∧ LL (W278.heap.size :: W40.heap.size :: W34.heap.size :: W30.heap.size :: W18.heap.size :: L) W ∧ RdF 3 (W278.heap.size :: W40.heap.size :: W34.heap.size :: W30.heap.size :: W18.heap.size :: L) W ov (ops.map encO) ∧ RdF 2 (W278.heap.size :: W40.heap.size :: W34.heap.size :: W30.heap.size :: W18.heap.size :: L) W fv (fs.map encF) ∧ RdF 128 (W278.heap.size :: W40.heap.size :: W34.heap.size :: W30.heap.size :: W18.heap.size :: L) W st.s1 (((st.sure).map fillS).map encS) ∧ RdF 129 (W278.heap.size :: W40.heap.size :: W34.heap.size :: W30.heap.size :: W18.heap.size :: L) W st.s2 (((st.ws).map wrS).map encW) ∧ RdF 128 (W278.heap.size :: W40.heap.size :: W34.heap.size :: W30.heap.size :: W18.heap.size :: L) W u254 ((finS fs st.sure st.ws).map encS) ∧ RdF 129 (W278.heap.size :: W40.heap.size :: W34.heap.size :: W30.heap.size :: W18.heap.size :: L) W u255 (([] : List (Int × List Int)).map encW) ∧ Blk W W18.heap.size [u254, u255, .int .i64 (-1), .bool false] ∧ Blk W W30.heap.size (encS st.sure) ∧ Blk W W34.heap.size (encS (lastS st.sure st.ws)) ∧ Blk W W40.heap.size (encI (sinceS st.ws)) ∧ Blk W W278.heap.size (encS r274)) (fun (i2 : Nat) => 128 - i2) i1 (by repeat first | exact trivial | exact And.intro rfl trivial | refine And.intro rfl ?_ | refine And.intro (congrArg (fun z : Int => some (Value.int .i64 z)) (by omega)) ?_) ⟨hi1, (exit_first hb308 c311 hrk hk), hB, hL, h1, h3, j15, j16, j256, j257, k262, k35, k41, k58, k290⟩ ?_
                    clear h1 h3 j15 j16 j256 j257 k262 k35 k41 k58 k290 hB hL
                    rintro K315 i2 W316 ⟨hi2, hk2, hB, hL, h1, h3, j15, j16, j256, j257, k262, k35, k41, k58, k290⟩ hK315
                    refine WC.seq fun K317 hK317 => ?_
                    refine WC.seq fun K318 hK318 => ?_
                    obtain ⟨b319, hb319⟩ : ∃ b, b = (decide ((i2 : Int) < 128)) := ⟨_, rfl⟩
                    refine WC.drawM 11 [(some 165, .is (.int .i64 (i2 : Int))), (some 166, .is (.bool (decide ((i2 : Int) < 128)))), (some 167, .is (.bool b319)), (some 168, .is (bif b319 then .int .i64 (i2 : Int) else undef)), (some 169, .is (bif b319 then .pointer (some ⟨W278.heap.size, i2, none⟩) else undef)), (some 170, .is (bif b319 then .int .u8 (r274[i2]?.getD 0) else undef)), (some 171, .is (bif b319 then .int .i64 (a : Int) else undef)), (some 172, .is (bif b319 then .pointer (some ⟨W30.heap.size, a, none⟩) else undef)), (some 173, .is (bif b319 then .int .u8 (st.sure[a]?.getD 0) else undef)), (some 174, .is (bif b319 then .bool (decide (r274[i2]?.getD 0 = st.sure[a]?.getD 0)) else undef)), (some 175, .is (.bool (b319 && (decide (r274[i2]?.getD 0 = st.sure[a]?.getD 0)))))] [[], [0], [1], [2], [3, 2], [4, 2], [2], [6, 2], [7, 2], [5, 8, 2], [2, 9]] (by kernel_rfl) (by kernel_rfl) (by kernel_rfl) (by kernel_rfl) (by kernel_rfl) (by kernel_rfl) (by kernel_rfl) (by exact trivial) ?_ ?_
                    ·
                      refine DSteps.cons (fun Wd hd => ?_) ?_
                      ·
                        exact DV.dr (dx_move rfl rfl) ⟨Below.refl _ _, rfl⟩
                      refine DSteps.cons (fun Wd hd => ?_) ?_
                      ·
                        exact DV.dr (dx_lss rfl rfl rfl) ⟨Below.refl _ _, rfl⟩
                      refine DSteps.cons (fun Wd hd => ?_) ?_
                      ·
                        exact DV.dr (dx_move rfl rfl) ⟨Below.refl _ _, by rw [hb319]; rfl⟩
                      refine DSteps.cons (fun Wd hd => ?_) ?_
                      ·
                        cases b319
                        ·
                          exact DV.dr (dv_off rfl) ⟨Below.refl _ _, rfl⟩
                        ·
                          exact DV.dr (dx_move rfl rfl) ⟨Below.refl _ _, rfl⟩
                      refine DSteps.cons (fun Wd hd => ?_) ?_
                      ·
                        cases b319
                        ·
                          exact DV.dr (dv_off rfl) ⟨Below.refl _ _, rfl⟩
                        ·
                          exact DV.dr (dx_idxA (o1 := i2) rfl Try.underlying27 ty_size_5_1 rfl rfl (by first | omega | (have hq_ := of_decide_eq_true hb319.symm; omega)) (by simp)) ⟨Below.refl _ _, rfl⟩
                      refine DSteps.cons (fun Wd hd => ?_) ?_
                      ·
                        cases b319
                        ·
                          exact DV.dr (dv_off rfl) ⟨Below.refl _ _, rfl⟩
                        ·
                          have k290 := k290.below hd
                          exact DV.dr (dx_load rfl ty_one_5 rfl (k290.cell (k := i2) (cellS (by rw [show r274.length = 128 from l276]; exact (by first | omega | (have hq_ := of_decide_eq_true hb319.symm; omega)))))) ⟨Below.refl _ _, rfl⟩
                      refine DSteps.cons (fun Wd hd => ?_) ?_
                      ·
                        cases b319
                        ·
                          exact DV.dr (dv_off rfl) ⟨Below.refl _ _, rfl⟩
                        ·
                          exact DV.dr (dx_move rfl rfl) ⟨Below.refl _ _, rfl⟩
                      refine DSteps.cons (fun Wd hd => ?_) ?_
                      ·
                        cases b319
                        ·
                          exact DV.dr (dv_off rfl) ⟨Below.refl _ _, rfl⟩
                        ·
                          exact DV.dr (dx_idxA (o1 := a) rfl Try.underlying46 ty_size_5_1 rfl rfl (by first | omega | (have hq_ := of_decide_eq_true hb319.symm; omega)) (by simp)) ⟨Below.refl _ _, rfl⟩
                      refine DSteps.cons (fun Wd hd => ?_) ?_
                      ·
                        cases b319
                        ·
                          exact DV.dr (dv_off rfl) ⟨Below.refl _ _, rfl⟩
                        ·
                          have k35 := k35.below hd
                          exact DV.dr (dx_load rfl ty_one_5 rfl (k35.cell (k := a) (cellS (by rw [show st.sure.length = 8 from hs]; exact (by first | omega | (have hq_ := of_decide_eq_true hb319.symm; omega)))))) ⟨Below.refl _ _, rfl⟩
                      refine DSteps.cons (fun Wd hd => ?_) ?_
                      ·
                        cases b319
                        ·
                          exact DV.dr (dv_off rfl) ⟨Below.refl _ _, rfl⟩
                        ·
                          exact DV.dr (dx_eql rfl rfl rfl) ⟨Below.refl _ _, rfl⟩
                      refine DSteps.cons (fun Wd hd => ?_) ?_
                      ·
                        cases b319
                        ·
                          exact DV.dr (dx_pick rfl rfl rfl) ⟨Below.refl _ _, rfl⟩
                        ·
                          exact DV.dr (dx_pick rfl rfl rfl) ⟨Below.refl _ _, rfl⟩
                      exact trivial
                    ·
                      intro W320 b321
                      replace h1 := h1.below b321
                      replace h3 := h3.below b321
                      replace j15 := j15.below b321
                      replace j16 := j16.below b321
                      replace j256 := j256.below b321
                      replace j257 := j257.below b321
                      replace k262 := k262.below b321
                      replace k35 := k35.below b321
                      replace k41 := k41.below b321
                      replace k58 := k58.below b321
                      replace k290 := k290.below b321
                      replace hB := below_then hB b321
                      replace hL := LL.below hL b321
                      refine WL.nil ?_
                      refine hK318 ?_
                      refine WC.cond rfl (fun c322 => ?_) (fun c322 => ?_)
                      ·
                        obtain ⟨g323, g324⟩ := band_t c322
                        replace g324 := of_decide_eq_true g324
                        refine WC.skip ?_
                        refine hK317 ?_
                        refine WC.block ?_
                        refine WC.region ?_
                        refine WL.val (dx_move rfl rfl) rfl rfl ?_
                        refine WL.val (dx_add (r := (i2 : Int) + 1) rfl rfl rfl (wrap64_id (by omega))) rfl rfl ?_
                        refine WL.val (dx_assign rfl rfl) rfl rfl ?_
                        refine WL.nil ?_
                        have hlt : (i2 : Int) < 128 := of_decide_eq_true (by rw [← hb319]; exact g323)
                        exact hK315 (i2 + 1) ⟨(by omega), (by omega), hB, hL, h1, h3, j15, j16, j256, j257, k262, k35, k41, k58, k290⟩ (by omega) (by repeat first | exact trivial | exact And.intro rfl trivial | refine And.intro rfl ?_ | refine And.intro (congrArg (fun z : Int => some (Value.int .i64 z)) (by omega)) ?_)
                      ·
                        refine WC.exit ?_
                        refine hK314 ?_
                        refine WC.seq fun K325 hK325 => ?_
                        refine WC.region ?_
                        refine WL.val (dx_move rfl rfl) rfl rfl ?_
                        refine WL.val (dx_lss rfl rfl rfl) rfl rfl ?_
                        refine WL.nil ?_
                        refine hK325 ?_
                        refine WC.cond rfl (fun c326 => ?_) (fun c326 => ?_)
                        ·
                          replace c326 := of_decide_eq_true c326
                          exact absurd c326 (exit_second hb319 c322 hrk hk hk2)
                        ·
                          replace c326 := of_decide_eq_false c326
                          refine WC.skip ?_
                          refine hK272 ?_
                          refine WC.region ?_
                          refine WL.val (dx_move rfl rfl) rfl rfl ?_
                          refine WL.val (dx_add (r := (a : Int) + 1) rfl rfl rfl (wrap64_id (by omega))) rfl rfl ?_
                          refine WL.val (dx_assign rfl rfl) rfl rfl ?_
                          refine WL.nil ?_
                          replace hL := hL.less (fun x hx => (.tail _ hx))
                          replace h1 := h1.less (fun x hx => (.tail _ hx))
                          replace h3 := h3.less (fun x hx => (.tail _ hx))
                          replace j15 := j15.less (fun x hx => (.tail _ hx))
                          replace j16 := j16.less (fun x hx => (.tail _ hx))
                          replace j256 := j256.less (fun x hx => (.tail _ hx))
                          replace j257 := j257.less (fun x hx => (.tail _ hx))
                          exact hK267 (a + 1) ⟨(by omega), hB, hL, h1, h3, j15, j16, j256, j257, k262, k35, k41, k58⟩ (by omega) (by repeat first | exact trivial | exact And.intro rfl trivial | refine And.intro rfl ?_ | refine And.intro (congrArg (fun z : Int => some (Value.int .i64 z)) (by omega)) ?_)
        ·
          replace c271 := of_decide_eq_false c271
          refine WC.exit ?_
          refine hK265 ?_
          refine WC.seq fun K327 hK327 => ?_
          refine WC.region ?_
          refine WL.val (dx_assign rfl rfl) rfl rfl ?_
          refine WL.nil ?_
          refine hK327 ?_
          refine WC.ret fun a_ ha_ => ?_
          exact hQ (cv_ret1 rfl (.tmp rfl) rfl hB ha_)

end Go.Proofs.Ythefddclefimoaa

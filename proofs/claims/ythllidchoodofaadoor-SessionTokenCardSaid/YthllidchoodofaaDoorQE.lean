/- SessionToken, walked. Sessions: what the reference's loops find. No program stands here. Slices of structures as arguments, with what their data weighs. No program stands here. Sessions, as arguments. The tries of SessionToken, as an argument. -/
import Derived.Test.YthllidchoodofaaDoorTie
import Derived.Test.YthllidchoodofaaDoorCards
import Derived.Deep.Strs
import Derived.ChangeSame
import Derived.Deep.DeepHandedRow
import Derived.Lay
import Derived.LaidLaws
import Derived.SevenTiedAt
import Derived.Test.YthllidchoodofaaDoorQD
namespace Go.Proofs.YthllidchoodofaaDoor
open Go.RowKit
set_option linter.unusedVariables false
set_option linter.unusedSimpArgs false
set_option maxRecDepth 8000

def encY (p : Int × Bool × Bool) : List Value := [.int .u16 p.1, .bool p.2.1, .bool p.2.2]
structure TkSt where
  i : Nat
  lv : Value
  now : Int
  k : Int
  b : Bool
  t : Int
set_option maxHeartbeats 1000000 in
theorem sessionToken_v (acts : List (Int × Bool × Bool)) (av : Value) (w : World) (L : List Nat) (hL : LL L w) (h1 : RdF 3 L w av (acts.map encY)) (hM : MaxL L w)  (hops : ∀ p ∈ acts, 0 ≤ p.1 ∧ p.1 ≤ 65535) : CV Tryd.prog 4 [av] w fun v W => v = .bool true := by
  refine cv_enter (N := 109) (f := [(0, av)]) Tryd.func4 rfl rfl rfl rfl fun Q hQ hE => ?_
  have hB := Below.refl w.heap.size w
  have h1m : acts.length ≤ maxLen := by have := h1.len; rwa [List.length_map] at this
  unfold maxLen at h1m
  refine WC.seq fun K1 hK1 => ?_
  refine WC.region ?_
  refine WL.val (dx_assign rfl rfl) rfl rfl ?_
  refine WL.nil ?_
  refine hK1 ?_
  refine WC.seq fun K2 hK2 => ?_
  refine WC.seq fun K3 hK3 => ?_
  refine WC.region ?_
  refine WL.get (dx_cv rfl Tryd.func6 rfl rfl rfl (alive16_v w _ hL hM)) rfl rfl ?_
  rintro _ W5 ⟨rfl, b4⟩
  replace h1 := h1.below b4
  replace hM := hM.below b4
  replace hB := below_then hB b4
  replace hL := LL.below hL b4
  refine WL.val (dx_not rfl rfl) rfl rfl ?_
  refine WL.nil ?_
  refine hK3 ?_
  refine WC.condF rfl ?_
  refine WC.skip ?_
  refine hK2 ?_
  refine WC.seq fun K6 hK6 => ?_
  refine WC.seq fun K7 hK7 => ?_
  refine WC.region ?_
  refine WL.val (dx_move rfl rfl) rfl rfl ?_
  refine WL.val (dx_lenX rfl ty_slice_34 rfl h1) rfl rfl ?_
  refine WL.val (dx_gtr rfl rfl rfl) rfl rfl ?_
  refine WL.nil ?_
  refine hK7 ?_
  refine WC.cond rfl (fun c8 => ?_) (fun c8 => ?_)
  ·
    replace c8 := of_decide_eq_true c8
    refine WC.seq fun K9 hK9 => ?_
    refine WC.region ?_
    refine WL.val (dx_assign rfl rfl) rfl rfl ?_
    refine WL.nil ?_
    refine hK9 ?_
    refine WC.ret fun a_ ha_ => ?_
    exact hQ (cv_ret1 rfl (.tmp rfl) rfl hB ha_)
  ·
    replace c8 := of_decide_eq_false c8
    refine WC.skip ?_
    refine hK6 ?_
    refine WC.seq fun K10 hK10 => ?_
    refine WC.region ?_
    refine WL.get (dx_cv rfl Tryd.func13 rfl rfl rfl (ask_v W5 [] (LL.nil _))) rfl rfl ?_
    rintro _ W12 ⟨rfl, b11⟩
    replace h1 := h1.below b11
    replace hM := hM.below b11
    replace hB := below_then hB b11
    replace hL := LL.below hL b11
    refine WL.get (dx_cv rfl Tryd.func8 rfl rfl rfl ((show CV _ _ [_, _] _ (fun v W => ∃ s2, v = .tuple #[s2, .int .i64 5, .bool true, .int .i64 0] ∧ RdF 10 (L) W s2 ([askZ].map encZ)) from by have := request_v [] askZ (.slice none 0 0) W12 (L) hL (RdF.nil (by decide)) hM sm_z0 (by decide); rw [al_r1, al_r2, al_r3, al_r4] at this; exact this))) rfl rfl ?_
    rintro _ W16 ⟨⟨u13, rfl, j14⟩, b15⟩
    replace h1 := h1.below b15
    replace hM := hM.below b15
    replace hB := below_then hB b15
    replace hL := LL.below hL b15
    refine WL.val (dx_move rfl rfl) rfl rfl ?_
    refine WL.val (dx_extract rfl rfl rfl) rfl rfl ?_
    refine WL.val (dx_extract rfl rfl rfl) rfl rfl ?_
    refine WL.val (dx_extract rfl rfl rfl) rfl rfl ?_
    refine WL.val (dx_extract rfl rfl rfl) rfl rfl ?_
    refine WL.val (dx_assign rfl rfl) rfl rfl ?_
    refine WL.val (dx_assign rfl rfl) rfl rfl ?_
    refine WL.val (dx_assign rfl rfl) rfl rfl ?_
    refine WL.val (dx_assign rfl rfl) rfl rfl ?_
    refine WL.nil ?_
    refine hK10 ?_
    refine WC.seq fun K17 hK17 => ?_
    have hlv : RdF 10 (L) W16 u13 ([stZ 0 false 0].map encZ) := j14
    refine WC.region ?_
    refine WL.val (dx_assign rfl rfl) rfl rfl ?_
    refine WL.val (dx_assign rfl rfl) rfl rfl ?_
    refine WL.nil ?_
    refine hK17 ?_
    refine WC.seq fun K18 hK18 => ?_
    refine WC.region ?_
    refine WL.val (dx_assign rfl rfl) rfl rfl ?_
    refine WL.nil ?_
    refine hK18 ?_
    refine WC.seq fun K19 hK19 => ?_
    refine WC.seq fun K20 hK20 => ?_
    refine WC.region ?_
    refine WL.val (dx_assign rfl rfl) rfl rfl ?_
    refine WL.nil ?_
    refine hK20 ?_
    refine WC.block ?_
    refine WC.loop (fun (st : TkSt) => [(0, av), (6, .int .i64 0), (3, st.lv), (7, .int .i64 st.now), (8, .int .i64 st.k), (9, .bool st.b), (10, .int .i64 (st.i : Int))]) (fun (st : TkSt) W => st.i ≤ acts.length ∧ (0 ≤ st.k ∧ st.k ≤ 3) ∧ (100 ≤ st.now ∧ st.now ≤ 100 + (st.i : Int) * 65535) ∧ (0 ≤ st.t ∧ st.t ≤ 1099511627776) ∧ (st.b = false → st.t = 0) ∧ Below w.heap.size w W ∧ LL (L) W ∧ RdF 3 (L) W av (acts.map encY) ∧ MaxL (L) W ∧ RdF 10 (L) W st.lv ([stZ st.k st.b st.t].map encZ)) (fun (st : TkSt) => acts.length - st.i) ⟨0, u13, 100, 0, false, 0⟩ (by repeat first | exact trivial | exact And.intro rfl trivial | refine And.intro rfl ?_ | refine And.intro (congrArg (fun z : Int => some (Value.int .i64 z)) (by omega)) ?_) ⟨Nat.zero_le _, (show (0 : Int) ≤ 0 ∧ (0 : Int) ≤ 3 by decide), (show (100 : Int) ≤ 100 ∧ (100 : Int) ≤ 100 + ((0 : Nat) : Int) * 65535 by decide), (show (0 : Int) ≤ 0 ∧ (0 : Int) ≤ 1099511627776 by decide), (fun _ => rfl), hB, hL, h1, hM, hlv⟩ ?_
    clear h1 hM hlv hB hL
    rintro K21 st W22 ⟨hi, hk, hn, ht, hb, hB, hL, h1, hM, hlv⟩ hK21
    refine WC.seq fun K23 hK23 => ?_
    refine WC.seq fun K24 hK24 => ?_
    refine WC.region ?_
    refine WL.val (dx_move rfl rfl) rfl rfl ?_
    refine WL.val (dx_move rfl rfl) rfl rfl ?_
    refine WL.val (dx_lenX rfl ty_slice_34 rfl h1) rfl rfl ?_
    refine WL.val (dx_lss rfl rfl rfl) rfl rfl ?_
    refine WL.nil ?_
    refine hK24 ?_
    refine WC.cond rfl (fun c25 => ?_) (fun c25 => ?_)
    ·
      replace c25 := of_decide_eq_true c25
      refine WC.skip ?_
      refine hK23 ?_
      refine WC.seq fun K26 hK26 => ?_
      refine WC.block ?_
      refine WC.seq fun K27 hK27 => ?_
      obtain ⟨r28, e29⟩ : ∃ x, acts[st.i]? = some x := ⟨_, List.getElem?_eq_getElem (by omega)⟩
      have Gr28 := hops r28 (List.mem_of_getElem? e29)
      obtain ⟨la, rr, ss⟩ := r28
      obtain ⟨nw, hnw⟩ : ∃ n : Int, n = st.now + la := ⟨_, rfl⟩
      simp only at Gr28
      cases rr
      ·
        cases ss
        ·
          refine WC.region ?_
          refine WL.val (dx_move rfl rfl) rfl rfl ?_
          refine WL.val (dx_move rfl rfl) rfl rfl ?_
          refine WL.val (dx_move rfl rfl) rfl rfl ?_
          refine WL.get (dx_idxF st.i rfl ty_slice_34 rfl rfl h1 (by omega) (at_mapX e29)) rfl rfl ?_
          rintro u30 _ ⟨rfl, p31⟩
          refine WL.get (dx_fldP 1 rfl ty_fld_38_0_0 rfl p31 (cs' := [.int .u16 la]) rfl (Nat.succ_pos _)) rfl rfl ?_
          rintro u32 _ ⟨rfl, p33⟩
          refine WL.val (dx_loadP rfl ty_one_36 rfl p33) rfl rfl ?_
          refine WL.val (dx_conv (r := la) rfl Tryd.underlying36 Tryd.underlying3 rfl (wrap64_id (by omega))) rfl rfl ?_
          refine WL.val (dx_add (r := nw) rfl rfl rfl (by rw [wrap64_id (by omega)]; omega)) rfl rfl ?_
          refine WL.val (dx_assign rfl rfl) rfl rfl ?_
          refine WL.nil ?_
          refine hK27 ?_
          refine WC.seq fun K34 hK34 => ?_
          refine WC.region ?_
          refine WL.get (dx_cv rfl Tryd.func13 rfl rfl rfl (ask_v W22 [] (LL.nil _))) rfl rfl ?_
          rintro _ W36 ⟨rfl, b35⟩
          replace h1 := h1.below b35
          replace hM := hM.below b35
          replace hlv := hlv.below b35
          replace hB := below_then hB b35
          replace hL := LL.below hL b35
          refine WL.get (dx_alloc rfl ty_zero_26 rfl) rfl rfl ?_
          rintro _ W37 ⟨rfl, k38, b39, z40⟩
          have l41 := hB.size
          replace h1 := h1.more b39 (Nat.le_refl _)
          replace hM := hM.more b39 (Nat.le_refl _)
          replace hlv := hlv.more b39 (Nat.le_refl _)
          replace hB := below_then hB b39
          replace hL := LL.more hL z40
          refine WL.do (dx_store (cs' := [.int .i64 5, .string ({ data := #[115] }), .string ({ data := #[101, 109, 97, 105, 108] }), .string ({ data := #[97, 64, 98, 46, 99] }), .string ({ data := #[116] }), .int .i64 1, .int .i64 100, .int .i64 0, .bool false, .int .i64 0]) (vs := [.int .i64 5, .string ({ data := #[115] }), .string ({ data := #[101, 109, 97, 105, 108] }), .string ({ data := #[97, 64, 98, 46, 99] }), .string ({ data := #[116] }), .int .i64 1, .int .i64 100, .int .i64 0, .bool false, .int .i64 0]) rfl ty_size_26_10 rfl rfl rfl (oc_cons rfl (oc_cons rfl (oc_cons rfl (oc_cons rfl (oc_cons rfl (oc_cons rfl (oc_cons rfl (oc_cons rfl (oc_cons rfl (oc_cons rfl oc_nil)))))))))) k38 rfl (Nat.le_of_ble_eq_true rfl) rfl) rfl ?_
          rintro _ W42 ⟨k44, o43⟩
          clear k38
          replace h1 := h1.only o43 (.head _)
          replace hM := hM.only o43 (.head _)
          replace hlv := hlv.only o43 (.head _)
          replace hB := o43.below hB l41
          replace hL := LL.only hL o43
          refine WL.nil ?_
          refine hK34 ?_
          refine WC.seq fun K45 hK45 => ?_
          refine WC.seq fun K46 hK46 => ?_
          refine WC.region ?_
          refine WL.val (dx_move rfl rfl) rfl rfl ?_
          refine WL.val (dx_move rfl rfl) rfl rfl ?_
          refine WL.get (dx_idxF st.i rfl ty_slice_34 rfl rfl h1 (by omega) (at_mapX e29)) rfl rfl ?_
          rintro u47 _ ⟨rfl, p48⟩
          refine WL.get (dx_fldP 1 rfl ty_fld_38_1_1 rfl p48 (cs' := [.bool false]) rfl (Nat.succ_pos _)) rfl rfl ?_
          rintro u49 _ ⟨rfl, p50⟩
          refine WL.val (dx_loadP rfl ty_one_4 rfl p50) rfl rfl ?_
          refine WL.val (dx_not rfl rfl) rfl rfl ?_
          refine WL.nil ?_
          refine hK46 ?_
          refine WC.condT rfl ?_
          refine WC.region ?_
          refine WL.val (dx_fld (o1 := 4) rfl ty_fld_26_3_4 rfl rfl) rfl rfl ?_
          refine WL.do (dx_store (cs' := [.int .i64 5, .string ({ data := #[115] }), .string ({ data := #[101, 109, 97, 105, 108] }), .string ({ data := #[97, 64, 98, 46, 99] }), .string ({ data := #[120] }), .int .i64 1, .int .i64 100, .int .i64 0, .bool false, .int .i64 0]) (vs := [.string ({ data := #[120] })]) rfl ty_size_9_1 rfl rfl rfl (oc_cons rfl oc_nil) k44 rfl (Nat.le_of_ble_eq_true rfl) rfl) rfl ?_
          rintro _ W51 ⟨k53, o52⟩
          clear k44
          replace h1 := h1.only o52 (.head _)
          replace hM := hM.only o52 (.head _)
          replace hlv := hlv.only o52 (.head _)
          replace hB := o52.below hB l41
          replace hL := LL.only hL o52
          refine WL.nil ?_
          refine hK45 ?_
          refine WC.seq fun K54 hK54 => ?_
          refine WC.seq fun K55 hK55 => ?_
          refine WC.region ?_
          refine WL.val (dx_move rfl rfl) rfl rfl ?_
          refine WL.val (dx_move rfl rfl) rfl rfl ?_
          refine WL.get (dx_idxF st.i rfl ty_slice_34 rfl rfl h1 (by omega) (at_mapX e29)) rfl rfl ?_
          rintro u56 _ ⟨rfl, p57⟩
          refine WL.get (dx_fldP 1 rfl ty_fld_38_2_2 rfl p57 (cs' := [.bool false]) rfl (Nat.succ_pos _)) rfl rfl ?_
          rintro u58 _ ⟨rfl, p59⟩
          refine WL.val (dx_loadP rfl ty_one_4 rfl p59) rfl rfl ?_
          refine WL.val (dx_not rfl rfl) rfl rfl ?_
          refine WL.nil ?_
          refine hK55 ?_
          refine WC.condT rfl ?_
          refine WC.region ?_
          refine WL.val (dx_fld (o1 := 1) rfl ty_fld_26_1_1 rfl rfl) rfl rfl ?_
          refine WL.do (dx_store (cs' := [.int .i64 5, .string ({ data := #[121] }), .string ({ data := #[101, 109, 97, 105, 108] }), .string ({ data := #[97, 64, 98, 46, 99] }), .string ({ data := #[120] }), .int .i64 1, .int .i64 100, .int .i64 0, .bool false, .int .i64 0]) (vs := [.string ({ data := #[121] })]) rfl ty_size_9_1 rfl rfl rfl (oc_cons rfl oc_nil) k53 rfl (Nat.le_of_ble_eq_true rfl) rfl) rfl ?_
          rintro _ W60 ⟨k62, o61⟩
          clear k53
          replace h1 := h1.only o61 (.head _)
          replace hM := hM.only o61 (.head _)
          replace hlv := hlv.only o61 (.head _)
          replace hB := o61.below hB l41
          replace hL := LL.only hL o61
          refine WL.nil ?_
          refine hK54 ?_
          refine WC.seq fun K63 hK63 => ?_
          have hg0 := st_good (b := st.b) hk ht hb
          have hnn : 0 ≤ nw ∧ nw ≤ 1099511627776 := by omega
          obtain ⟨q1, q2⟩ := (st_sub (b := st.b) (w := (⟨5, { data := #[121] }, { data := #[101, 109, 97, 105, 108] }, { data := #[97, 64, 98, 46, 99] }, { data := #[120] }, 1, 100, 0, false, 0⟩ : SesX)) hg0 hnn rfl).1 (fun hc => absurd hc.1 (by decide))
          refine WC.region ?_
          refine WL.val (dx_move rfl rfl) rfl rfl ?_
          refine WL.val (dx_move rfl rfl) rfl rfl ?_
          refine WL.val (dx_loadN rfl ty_agg_26_10 rfl k62.range rfl) rfl rfl ?_
          refine WL.get (dx_cv rfl Tryd.func14 rfl rfl rfl ((show CV _ _ [_, _, _] _ (fun v W => ∃ s2, v = .tuple #[s2, .int .i64 11] ∧ RdF 10 (W36.heap.size :: L) W s2 ([stZ st.k st.b st.t].map encZ)) from by have := submit_v [stZ st.k st.b st.t] nw (⟨5, { data := #[121] }, { data := #[101, 109, 97, 105, 108] }, { data := #[97, 64, 98, 46, 99] }, { data := #[120] }, 1, 100, 0, false, 0⟩ : SesX) _ W60 (W36.heap.size :: L) hL hlv hM (sm_st _ _ _); rw [q1, q2] at this; exact this))) rfl rfl ?_
          rintro _ W67 ⟨⟨u64, rfl, j65⟩, b66⟩
          replace h1 := h1.below b66
          replace hM := hM.below b66
          replace hlv := hlv.below b66
          replace k62 := k62.below b66
          replace hB := below_then hB b66
          replace hL := LL.below hL b66
          refine WL.val (dx_move rfl rfl) rfl rfl ?_
          refine WL.val (dx_extract rfl rfl rfl) rfl rfl ?_
          refine WL.val (dx_extract rfl rfl rfl) rfl rfl ?_
          refine WL.val (dx_assign rfl rfl) rfl rfl ?_
          refine WL.val (dx_assign rfl rfl) rfl rfl ?_
          refine WL.nil ?_
          refine hK63 ?_
          refine WC.seq fun K68 hK68 => ?_
          refine WC.region ?_
          refine WL.val (dx_move rfl rfl) rfl rfl ?_
          refine WL.val (dx_assign rfl rfl) rfl rfl ?_
          refine WL.nil ?_
          refine hK68 ?_
          refine WC.seq fun K69 hK69 => ?_
          refine WC.region ?_
          refine WL.val (dx_assign rfl rfl) rfl rfl ?_
          refine WL.nil ?_
          refine hK69 ?_
          refine WC.seq fun K70 hK70 => ?_
          refine WC.block ?_
          refine WC.seq fun K71 hK71 => ?_
          refine WC.region ?_
          refine WL.val (dx_move rfl rfl) rfl rfl ?_
          refine WL.val (dx_gtr rfl rfl rfl) rfl rfl ?_
          refine WL.val (dx_move rfl rfl) rfl rfl ?_
          refine WL.split 69 rfl (fun g72 => ?_) (fun g72 => ?_)
          ·
            replace g72 := of_decide_eq_true g72
            refine WL.off rfl rfl rfl ?_
            refine WL.off rfl rfl rfl ?_
            refine WL.off rfl rfl rfl ?_
            refine WL.off rfl rfl rfl ?_
            refine WL.off rfl rfl rfl ?_
            refine WL.off rfl rfl rfl ?_
            refine WL.val (dx_pick rfl rfl rfl) rfl rfl ?_
            refine WL.val (dx_assign rfl rfl) rfl rfl ?_
            refine WL.nil ?_
            refine hK71 ?_
            refine WC.condT rfl ?_
            refine WC.region ?_
            refine WL.val (dx_assign rfl rfl) rfl rfl ?_
            refine WL.nil ?_
            refine hK70 ?_
            refine WC.seq fun K73 hK73 => ?_
            refine WC.seq fun K74 hK74 => ?_
            refine WC.region ?_
            refine WL.val (dx_move rfl rfl) rfl rfl ?_
            refine WL.val (dx_move rfl rfl) rfl rfl ?_
            refine WL.val (dx_neq rfl rfl rfl) rfl rfl ?_
            refine WL.nil ?_
            refine hK74 ?_
            refine WC.condF rfl ?_
            refine WC.skip ?_
            refine hK73 ?_
            refine WC.seq fun K75 hK75 => ?_
            have hk' : 0 ≤ st.k ∧ st.k ≤ 3 := by omega
            have ht' : 0 ≤ st.t ∧ st.t ≤ 1099511627776 := by first | omega | (split <;> omega)
            have hb' : st.b = false → st.t = 0 := hb
            have hg1 := st_good (b := st.b) hk' ht' hb'
            rcases Int.lt_or_le 86500 nw with hc | hc
            ·
              have q3 := (st_sh (b := st.b) hg1 hnn).2.2 hc
              refine WC.region ?_
              refine WL.val (dx_move rfl rfl) rfl rfl ?_
              refine WL.val (dx_move rfl rfl) rfl rfl ?_
              refine WL.get (dx_cv rfl Tryd.func13 rfl rfl rfl (ask_v W67 [] (LL.nil _))) rfl rfl ?_
              rintro _ W77 ⟨rfl, b76⟩
              replace h1 := h1.below b76
              replace hM := hM.below b76
              replace hlv := hlv.below b76
              replace j65 := j65.below b76
              replace k62 := k62.below b76
              replace hB := below_then hB b76
              replace hL := LL.below hL b76
              refine WL.get (dx_cv rfl Tryd.func15 rfl rfl rfl ((show CV _ _ [_, _, _] _ (fun v W => v = .tuple #[.agg #[.string ⟨#[]⟩, .string ⟨#[]⟩], .int .i64 11]) from by have := shown_v [stZ st.k st.b st.t] nw askZ _ W77 (W36.heap.size :: L) hL j65 hM (sm_st _ _ _); have q4 : shM [stZ st.k st.b st.t] nw askZ = ⟨#[]⟩ := (by unfold shM; rw [if_neg (by rw [q3]; decide)]); have q5 : shW [stZ st.k st.b st.t] nw askZ = ⟨#[]⟩ := (by unfold shW; rw [if_neg (by rw [q3]; decide)]); rw [q3, q4, q5] at this; exact this))) rfl rfl ?_
              rintro _ W79 ⟨rfl, b78⟩
              replace h1 := h1.below b78
              replace hM := hM.below b78
              replace hlv := hlv.below b78
              replace j65 := j65.below b78
              replace k62 := k62.below b78
              replace hB := below_then hB b78
              replace hL := LL.below hL b78
              refine WL.val (dx_move rfl rfl) rfl rfl ?_
              refine WL.val (dx_extract rfl rfl rfl) rfl rfl ?_
              refine WL.val (dx_extract rfl rfl rfl) rfl rfl ?_
              refine WL.get (dx_alloc rfl ty_zero_24 rfl) rfl rfl ?_
              rintro _ W80 ⟨rfl, k81, b82, z83⟩
              have n84 : W36.heap.size ≠ W79.heap.size := Nat.ne_of_lt k62.lt
              have l85 := hB.size
              replace h1 := h1.more b82 (Nat.le_refl _)
              replace hM := hM.more b82 (Nat.le_refl _)
              replace hlv := hlv.more b82 (Nat.le_refl _)
              replace j65 := j65.more b82 (Nat.le_refl _)
              replace k62 := k62.below b82
              replace hB := below_then hB b82
              replace hL := LL.more hL z83
              refine WL.do (dx_store (cs' := [.string ⟨#[]⟩, .string ⟨#[]⟩]) (vs := [.string ⟨#[]⟩, .string ⟨#[]⟩]) rfl ty_size_24_2 rfl rfl rfl (oc_cons rfl (oc_cons rfl oc_nil)) k81 rfl (Nat.le_of_ble_eq_true rfl) rfl) rfl ?_
              rintro _ W86 ⟨k88, o87⟩
              replace k62 := k62.other o87 n84
              clear k81
              replace h1 := h1.only o87 (.head _)
              replace hM := hM.only o87 (.head _)
              replace hlv := hlv.only o87 (.head _)
              replace j65 := j65.only o87 (.head _)
              replace hB := o87.below hB l85
              replace hL := LL.only hL o87
              refine WL.val (dx_assign rfl rfl) rfl rfl ?_
              refine WL.nil ?_
              refine hK75 ?_
              refine WC.seq fun K89 hK89 => ?_
              refine WC.region ?_
              refine WL.val (dx_move rfl rfl) rfl rfl ?_
              refine WL.val (dx_eql rfl rfl rfl) rfl rfl ?_
              refine WL.val (dx_move rfl rfl) rfl rfl ?_
              refine WL.val (dx_move rfl rfl) rfl rfl ?_
              refine WL.split 102 rfl (fun g90 => ?_) (fun g90 => ?_)
              ·
                refine WL.val (dx_move rfl rfl) rfl rfl ?_
                refine WL.val (dv_N (dx_leq rfl rfl rfl) (by omega)) rfl rfl ?_
                refine WL.val (dx_pick rfl rfl rfl) rfl rfl ?_
                refine WL.val (dv_Fz (dx_neqB rfl Tryd.underlying4 rfl rfl) (by decide)) rfl rfl ?_
                refine WL.nil ?_
                refine hK89 ?_
                refine WC.condF rfl ?_
                refine WC.skip ?_
                refine hK26 ?_
                refine WC.region ?_
                refine WL.val (dx_move rfl rfl) rfl rfl ?_
                refine WL.val (dx_add (r := (st.i : Int) + 1) rfl rfl rfl (wrap64_id (by omega))) rfl rfl ?_
                refine WL.val (dx_assign rfl rfl) rfl rfl ?_
                refine WL.nil ?_
                replace hL := hL.less (fun x hx => (.tail _ (.tail _ hx)))
                replace h1 := h1.less (fun x hx => (.tail _ (.tail _ hx)))
                replace hM := hM.less (fun x hx => (.tail _ (.tail _ hx)))
                replace j65 := j65.less (fun x hx => (.tail _ (.tail _ hx)))
                exact hK21 ⟨st.i + 1, u64, nw, st.k, st.b, st.t⟩ ⟨(by show st.i + 1 ≤ acts.length; omega), hk', (by show 100 ≤ nw ∧ nw ≤ 100 + ((st.i + 1 : Nat) : Int) * 65535; omega), ht', hb', hB, hL, h1, hM, j65⟩ (by show acts.length - (st.i + 1) < acts.length - st.i; omega) (by repeat first | exact trivial | exact And.intro rfl trivial | refine And.intro rfl ?_ | refine And.intro (congrArg (fun z : Int => some (Value.int .i64 z)) (by omega)) ?_)
              ·
                refine WL.off rfl rfl rfl ?_
                refine WL.off rfl rfl rfl ?_
                refine WL.val (dx_pick rfl rfl rfl) rfl rfl ?_
                refine WL.val (dv_Fz (dx_neqB rfl Tryd.underlying4 rfl rfl) (by decide)) rfl rfl ?_
                refine WL.nil ?_
                refine hK89 ?_
                refine WC.condF rfl ?_
                refine WC.skip ?_
                refine hK26 ?_
                refine WC.region ?_
                refine WL.val (dx_move rfl rfl) rfl rfl ?_
                refine WL.val (dx_add (r := (st.i : Int) + 1) rfl rfl rfl (wrap64_id (by omega))) rfl rfl ?_
                refine WL.val (dx_assign rfl rfl) rfl rfl ?_
                refine WL.nil ?_
                replace hL := hL.less (fun x hx => (.tail _ (.tail _ hx)))
                replace h1 := h1.less (fun x hx => (.tail _ (.tail _ hx)))
                replace hM := hM.less (fun x hx => (.tail _ (.tail _ hx)))
                replace j65 := j65.less (fun x hx => (.tail _ (.tail _ hx)))
                exact hK21 ⟨st.i + 1, u64, nw, st.k, st.b, st.t⟩ ⟨(by show st.i + 1 ≤ acts.length; omega), hk', (by show 100 ≤ nw ∧ nw ≤ 100 + ((st.i + 1 : Nat) : Int) * 65535; omega), ht', hb', hB, hL, h1, hM, j65⟩ (by show acts.length - (st.i + 1) < acts.length - st.i; omega) (by repeat first | exact trivial | exact And.intro rfl trivial | refine And.intro rfl ?_ | refine And.intro (congrArg (fun z : Int => some (Value.int .i64 z)) (by omega)) ?_)
            ·
              rcases (show st.b = false ∨ st.b = true by cases st.b <;> simp) with hbb | hbb
              ·
                have q3 := (st_sh (b := st.b) hg1 hnn).2.1 hc hbb
                refine WC.region ?_
                refine WL.val (dx_move rfl rfl) rfl rfl ?_
                refine WL.val (dx_move rfl rfl) rfl rfl ?_
                refine WL.get (dx_cv rfl Tryd.func13 rfl rfl rfl (ask_v W67 [] (LL.nil _))) rfl rfl ?_
                rintro _ W92 ⟨rfl, b91⟩
                replace h1 := h1.below b91
                replace hM := hM.below b91
                replace hlv := hlv.below b91
                replace j65 := j65.below b91
                replace k62 := k62.below b91
                replace hB := below_then hB b91
                replace hL := LL.below hL b91
                refine WL.get (dx_cv rfl Tryd.func15 rfl rfl rfl ((show CV _ _ [_, _, _] _ (fun v W => v = .tuple #[.agg #[.string ⟨#[]⟩, .string ⟨#[]⟩], .int .i64 14]) from by have := shown_v [stZ st.k st.b st.t] nw askZ _ W92 (W36.heap.size :: L) hL j65 hM (sm_st _ _ _); have q4 : shM [stZ st.k st.b st.t] nw askZ = ⟨#[]⟩ := (by unfold shM; rw [if_neg (by rw [q3]; decide)]); have q5 : shW [stZ st.k st.b st.t] nw askZ = ⟨#[]⟩ := (by unfold shW; rw [if_neg (by rw [q3]; decide)]); rw [q3, q4, q5] at this; exact this))) rfl rfl ?_
                rintro _ W94 ⟨rfl, b93⟩
                replace h1 := h1.below b93
                replace hM := hM.below b93
                replace hlv := hlv.below b93
                replace j65 := j65.below b93
                replace k62 := k62.below b93
                replace hB := below_then hB b93
                replace hL := LL.below hL b93
                refine WL.val (dx_move rfl rfl) rfl rfl ?_
                refine WL.val (dx_extract rfl rfl rfl) rfl rfl ?_
                refine WL.val (dx_extract rfl rfl rfl) rfl rfl ?_
                refine WL.get (dx_alloc rfl ty_zero_24 rfl) rfl rfl ?_
                rintro _ W95 ⟨rfl, k96, b97, z98⟩
                have n99 : W36.heap.size ≠ W94.heap.size := Nat.ne_of_lt k62.lt
                have l100 := hB.size
                replace h1 := h1.more b97 (Nat.le_refl _)
                replace hM := hM.more b97 (Nat.le_refl _)
                replace hlv := hlv.more b97 (Nat.le_refl _)
                replace j65 := j65.more b97 (Nat.le_refl _)
                replace k62 := k62.below b97
                replace hB := below_then hB b97
                replace hL := LL.more hL z98
                refine WL.do (dx_store (cs' := [.string ⟨#[]⟩, .string ⟨#[]⟩]) (vs := [.string ⟨#[]⟩, .string ⟨#[]⟩]) rfl ty_size_24_2 rfl rfl rfl (oc_cons rfl (oc_cons rfl oc_nil)) k96 rfl (Nat.le_of_ble_eq_true rfl) rfl) rfl ?_
                rintro _ W101 ⟨k103, o102⟩
                replace k62 := k62.other o102 n99
                clear k96
                replace h1 := h1.only o102 (.head _)
                replace hM := hM.only o102 (.head _)
                replace hlv := hlv.only o102 (.head _)
                replace j65 := j65.only o102 (.head _)
                replace hB := o102.below hB l100
                replace hL := LL.only hL o102
                refine WL.val (dx_assign rfl rfl) rfl rfl ?_
                refine WL.nil ?_
                refine hK75 ?_
                refine WC.seq fun K104 hK104 => ?_
                refine WC.region ?_
                refine WL.val (dx_move rfl rfl) rfl rfl ?_
                refine WL.val (dx_eql rfl rfl rfl) rfl rfl ?_
                refine WL.val (dx_move rfl rfl) rfl rfl ?_
                refine WL.val (dx_move rfl rfl) rfl rfl ?_
                refine WL.split 102 rfl (fun g105 => ?_) (fun g105 => ?_)
                ·
                  exact absurd (g105.symm.trans hbb) (by decide)
                ·
                  refine WL.off rfl rfl rfl ?_
                  refine WL.off rfl rfl rfl ?_
                  refine WL.val (dx_pick rfl rfl rfl) rfl rfl ?_
                  refine WL.val (dv_Fz (dx_neqB rfl Tryd.underlying4 rfl rfl) (by decide)) rfl rfl ?_
                  refine WL.nil ?_
                  refine hK104 ?_
                  refine WC.condF rfl ?_
                  refine WC.skip ?_
                  refine hK26 ?_
                  refine WC.region ?_
                  refine WL.val (dx_move rfl rfl) rfl rfl ?_
                  refine WL.val (dx_add (r := (st.i : Int) + 1) rfl rfl rfl (wrap64_id (by omega))) rfl rfl ?_
                  refine WL.val (dx_assign rfl rfl) rfl rfl ?_
                  refine WL.nil ?_
                  replace hL := hL.less (fun x hx => (.tail _ (.tail _ hx)))
                  replace h1 := h1.less (fun x hx => (.tail _ (.tail _ hx)))
                  replace hM := hM.less (fun x hx => (.tail _ (.tail _ hx)))
                  replace j65 := j65.less (fun x hx => (.tail _ (.tail _ hx)))
                  exact hK21 ⟨st.i + 1, u64, nw, st.k, st.b, st.t⟩ ⟨(by show st.i + 1 ≤ acts.length; omega), hk', (by show 100 ≤ nw ∧ nw ≤ 100 + ((st.i + 1 : Nat) : Int) * 65535; omega), ht', hb', hB, hL, h1, hM, j65⟩ (by show acts.length - (st.i + 1) < acts.length - st.i; omega) (by repeat first | exact trivial | exact And.intro rfl trivial | refine And.intro rfl ?_ | refine And.intro (congrArg (fun z : Int => some (Value.int .i64 z)) (by omega)) ?_)
              ·
                obtain ⟨q3, q4, q5⟩ := (st_sh (b := st.b) hg1 hnn).1 hc hbb
                refine WC.region ?_
                refine WL.val (dx_move rfl rfl) rfl rfl ?_
                refine WL.val (dx_move rfl rfl) rfl rfl ?_
                refine WL.get (dx_cv rfl Tryd.func13 rfl rfl rfl (ask_v W67 [] (LL.nil _))) rfl rfl ?_
                rintro _ W107 ⟨rfl, b106⟩
                replace h1 := h1.below b106
                replace hM := hM.below b106
                replace hlv := hlv.below b106
                replace j65 := j65.below b106
                replace k62 := k62.below b106
                replace hB := below_then hB b106
                replace hL := LL.below hL b106
                refine WL.get (dx_cv rfl Tryd.func15 rfl rfl rfl ((show CV _ _ [_, _, _] _ (fun v W => v = .tuple #[.agg #[.string { data := #[101, 109, 97, 105, 108] }, .string { data := #[97, 64, 98, 46, 99] }], .int .i64 0]) from by have := shown_v [stZ st.k st.b st.t] nw askZ _ W107 (W36.heap.size :: L) hL j65 hM (sm_st _ _ _); rw [q3, q4, q5] at this; exact this))) rfl rfl ?_
                rintro _ W109 ⟨rfl, b108⟩
                replace h1 := h1.below b108
                replace hM := hM.below b108
                replace hlv := hlv.below b108
                replace j65 := j65.below b108
                replace k62 := k62.below b108
                replace hB := below_then hB b108
                replace hL := LL.below hL b108
                refine WL.val (dx_move rfl rfl) rfl rfl ?_
                refine WL.val (dx_extract rfl rfl rfl) rfl rfl ?_
                refine WL.val (dx_extract rfl rfl rfl) rfl rfl ?_
                refine WL.get (dx_alloc rfl ty_zero_24 rfl) rfl rfl ?_
                rintro _ W110 ⟨rfl, k111, b112, z113⟩
                have n114 : W36.heap.size ≠ W109.heap.size := Nat.ne_of_lt k62.lt
                have l115 := hB.size
                replace h1 := h1.more b112 (Nat.le_refl _)
                replace hM := hM.more b112 (Nat.le_refl _)
                replace hlv := hlv.more b112 (Nat.le_refl _)
                replace j65 := j65.more b112 (Nat.le_refl _)
                replace k62 := k62.below b112
                replace hB := below_then hB b112
                replace hL := LL.more hL z113
                refine WL.do (dx_store (cs' := [.string ({ data := #[101, 109, 97, 105, 108] }), .string ({ data := #[97, 64, 98, 46, 99] })]) (vs := [.string ({ data := #[101, 109, 97, 105, 108] }), .string ({ data := #[97, 64, 98, 46, 99] })]) rfl ty_size_24_2 rfl rfl rfl (oc_cons rfl (oc_cons rfl oc_nil)) k111 rfl (Nat.le_of_ble_eq_true rfl) rfl) rfl ?_
                rintro _ W116 ⟨k118, o117⟩
                replace k62 := k62.other o117 n114
                clear k111
                replace h1 := h1.only o117 (.head _)
                replace hM := hM.only o117 (.head _)
                replace hlv := hlv.only o117 (.head _)
                replace j65 := j65.only o117 (.head _)
                replace hB := o117.below hB l115
                replace hL := LL.only hL o117
                refine WL.val (dx_assign rfl rfl) rfl rfl ?_
                refine WL.nil ?_
                refine hK75 ?_
                refine WC.seq fun K119 hK119 => ?_
                refine WC.region ?_
                refine WL.val (dx_move rfl rfl) rfl rfl ?_
                refine WL.val (dx_eql rfl rfl rfl) rfl rfl ?_
                refine WL.val (dx_move rfl rfl) rfl rfl ?_
                refine WL.val (dx_move rfl rfl) rfl rfl ?_
                refine WL.split 102 rfl (fun g120 => ?_) (fun g120 => ?_)
                ·
                  refine WL.val (dx_move rfl rfl) rfl rfl ?_
                  refine WL.val (dv_T (dx_leq rfl rfl rfl) (by omega)) rfl rfl ?_
                  refine WL.val (dx_pick rfl rfl rfl) rfl rfl ?_
                  refine WL.val (dv_Fz (dx_neqB rfl Tryd.underlying4 rfl rfl) (by decide)) rfl rfl ?_
                  refine WL.nil ?_
                  refine hK119 ?_
                  refine WC.condF rfl ?_
                  refine WC.skip ?_
                  refine hK26 ?_
                  refine WC.region ?_
                  refine WL.val (dx_move rfl rfl) rfl rfl ?_
                  refine WL.val (dx_add (r := (st.i : Int) + 1) rfl rfl rfl (wrap64_id (by omega))) rfl rfl ?_
                  refine WL.val (dx_assign rfl rfl) rfl rfl ?_
                  refine WL.nil ?_
                  replace hL := hL.less (fun x hx => (.tail _ (.tail _ hx)))
                  replace h1 := h1.less (fun x hx => (.tail _ (.tail _ hx)))
                  replace hM := hM.less (fun x hx => (.tail _ (.tail _ hx)))
                  replace j65 := j65.less (fun x hx => (.tail _ (.tail _ hx)))
                  exact hK21 ⟨st.i + 1, u64, nw, st.k, st.b, st.t⟩ ⟨(by show st.i + 1 ≤ acts.length; omega), hk', (by show 100 ≤ nw ∧ nw ≤ 100 + ((st.i + 1 : Nat) : Int) * 65535; omega), ht', hb', hB, hL, h1, hM, j65⟩ (by show acts.length - (st.i + 1) < acts.length - st.i; omega) (by repeat first | exact trivial | exact And.intro rfl trivial | refine And.intro rfl ?_ | refine And.intro (congrArg (fun z : Int => some (Value.int .i64 z)) (by omega)) ?_)
                ·
                  exact absurd (g120.symm.trans hbb) (by decide)
          ·
            replace g72 := of_decide_eq_false g72
            refine WL.val (dx_move rfl rfl) rfl rfl ?_
            refine WL.val (dx_move rfl rfl) rfl rfl ?_
            refine WL.get (dx_idxF st.i rfl ty_slice_34 rfl rfl h1 (by omega) (at_mapX e29)) rfl rfl ?_
            rintro u121 _ ⟨rfl, p122⟩
            refine WL.get (dx_fldP 1 rfl ty_fld_38_2_2 rfl p122 (cs' := [.bool false]) rfl (Nat.succ_pos _)) rfl rfl ?_
            rintro u123 _ ⟨rfl, p124⟩
            refine WL.val (dx_loadP rfl ty_one_4 rfl p124) rfl rfl ?_
            refine WL.val (dx_not rfl rfl) rfl rfl ?_
            refine WL.val (dx_pick rfl rfl rfl) rfl rfl ?_
            refine WL.val (dx_assign rfl rfl) rfl rfl ?_
            refine WL.nil ?_
            refine hK71 ?_
            refine WC.condT rfl ?_
            refine WC.region ?_
            refine WL.val (dx_assign rfl rfl) rfl rfl ?_
            refine WL.nil ?_
            refine hK70 ?_
            refine WC.seq fun K125 hK125 => ?_
            refine WC.seq fun K126 hK126 => ?_
            refine WC.region ?_
            refine WL.val (dx_move rfl rfl) rfl rfl ?_
            refine WL.val (dx_move rfl rfl) rfl rfl ?_
            refine WL.val (dx_neq rfl rfl rfl) rfl rfl ?_
            refine WL.nil ?_
            refine hK126 ?_
            refine WC.condF rfl ?_
            refine WC.skip ?_
            refine hK125 ?_
            refine WC.seq fun K127 hK127 => ?_
            have hk' : 0 ≤ st.k ∧ st.k ≤ 3 := by omega
            have ht' : 0 ≤ st.t ∧ st.t ≤ 1099511627776 := by first | omega | (split <;> omega)
            have hb' : st.b = false → st.t = 0 := hb
            have hg1 := st_good (b := st.b) hk' ht' hb'
            rcases Int.lt_or_le 86500 nw with hc | hc
            ·
              have q3 := (st_sh (b := st.b) hg1 hnn).2.2 hc
              refine WC.region ?_
              refine WL.val (dx_move rfl rfl) rfl rfl ?_
              refine WL.val (dx_move rfl rfl) rfl rfl ?_
              refine WL.get (dx_cv rfl Tryd.func13 rfl rfl rfl (ask_v W67 [] (LL.nil _))) rfl rfl ?_
              rintro _ W129 ⟨rfl, b128⟩
              replace h1 := h1.below b128
              replace hM := hM.below b128
              replace hlv := hlv.below b128
              replace j65 := j65.below b128
              replace k62 := k62.below b128
              replace hB := below_then hB b128
              replace hL := LL.below hL b128
              refine WL.get (dx_cv rfl Tryd.func15 rfl rfl rfl ((show CV _ _ [_, _, _] _ (fun v W => v = .tuple #[.agg #[.string ⟨#[]⟩, .string ⟨#[]⟩], .int .i64 11]) from by have := shown_v [stZ st.k st.b st.t] nw askZ _ W129 (W36.heap.size :: L) hL j65 hM (sm_st _ _ _); have q4 : shM [stZ st.k st.b st.t] nw askZ = ⟨#[]⟩ := (by unfold shM; rw [if_neg (by rw [q3]; decide)]); have q5 : shW [stZ st.k st.b st.t] nw askZ = ⟨#[]⟩ := (by unfold shW; rw [if_neg (by rw [q3]; decide)]); rw [q3, q4, q5] at this; exact this))) rfl rfl ?_
              rintro _ W131 ⟨rfl, b130⟩
              replace h1 := h1.below b130
              replace hM := hM.below b130
              replace hlv := hlv.below b130
              replace j65 := j65.below b130
              replace k62 := k62.below b130
              replace hB := below_then hB b130
              replace hL := LL.below hL b130
              refine WL.val (dx_move rfl rfl) rfl rfl ?_
              refine WL.val (dx_extract rfl rfl rfl) rfl rfl ?_
              refine WL.val (dx_extract rfl rfl rfl) rfl rfl ?_
              refine WL.get (dx_alloc rfl ty_zero_24 rfl) rfl rfl ?_
              rintro _ W132 ⟨rfl, k133, b134, z135⟩
              have n136 : W36.heap.size ≠ W131.heap.size := Nat.ne_of_lt k62.lt
              have l137 := hB.size
              replace h1 := h1.more b134 (Nat.le_refl _)
              replace hM := hM.more b134 (Nat.le_refl _)
              replace hlv := hlv.more b134 (Nat.le_refl _)
              replace j65 := j65.more b134 (Nat.le_refl _)
              replace k62 := k62.below b134
              replace hB := below_then hB b134
              replace hL := LL.more hL z135
              refine WL.do (dx_store (cs' := [.string ⟨#[]⟩, .string ⟨#[]⟩]) (vs := [.string ⟨#[]⟩, .string ⟨#[]⟩]) rfl ty_size_24_2 rfl rfl rfl (oc_cons rfl (oc_cons rfl oc_nil)) k133 rfl (Nat.le_of_ble_eq_true rfl) rfl) rfl ?_
              rintro _ W138 ⟨k140, o139⟩
              replace k62 := k62.other o139 n136
              clear k133
              replace h1 := h1.only o139 (.head _)
              replace hM := hM.only o139 (.head _)
              replace hlv := hlv.only o139 (.head _)
              replace j65 := j65.only o139 (.head _)
              replace hB := o139.below hB l137
              replace hL := LL.only hL o139
              refine WL.val (dx_assign rfl rfl) rfl rfl ?_
              refine WL.nil ?_
              refine hK127 ?_
              refine WC.seq fun K141 hK141 => ?_
              refine WC.region ?_
              refine WL.val (dx_move rfl rfl) rfl rfl ?_
              refine WL.val (dx_eql rfl rfl rfl) rfl rfl ?_
              refine WL.val (dx_move rfl rfl) rfl rfl ?_
              refine WL.val (dx_move rfl rfl) rfl rfl ?_
              refine WL.split 102 rfl (fun g142 => ?_) (fun g142 => ?_)
              ·
                refine WL.val (dx_move rfl rfl) rfl rfl ?_
                refine WL.val (dv_N (dx_leq rfl rfl rfl) (by omega)) rfl rfl ?_
                refine WL.val (dx_pick rfl rfl rfl) rfl rfl ?_
                refine WL.val (dv_Fz (dx_neqB rfl Tryd.underlying4 rfl rfl) (by decide)) rfl rfl ?_
                refine WL.nil ?_
                refine hK141 ?_
                refine WC.condF rfl ?_
                refine WC.skip ?_
                refine hK26 ?_
                refine WC.region ?_
                refine WL.val (dx_move rfl rfl) rfl rfl ?_
                refine WL.val (dx_add (r := (st.i : Int) + 1) rfl rfl rfl (wrap64_id (by omega))) rfl rfl ?_
                refine WL.val (dx_assign rfl rfl) rfl rfl ?_
                refine WL.nil ?_
                replace hL := hL.less (fun x hx => (.tail _ (.tail _ hx)))
                replace h1 := h1.less (fun x hx => (.tail _ (.tail _ hx)))
                replace hM := hM.less (fun x hx => (.tail _ (.tail _ hx)))
                replace j65 := j65.less (fun x hx => (.tail _ (.tail _ hx)))
                exact hK21 ⟨st.i + 1, u64, nw, st.k, st.b, st.t⟩ ⟨(by show st.i + 1 ≤ acts.length; omega), hk', (by show 100 ≤ nw ∧ nw ≤ 100 + ((st.i + 1 : Nat) : Int) * 65535; omega), ht', hb', hB, hL, h1, hM, j65⟩ (by show acts.length - (st.i + 1) < acts.length - st.i; omega) (by repeat first | exact trivial | exact And.intro rfl trivial | refine And.intro rfl ?_ | refine And.intro (congrArg (fun z : Int => some (Value.int .i64 z)) (by omega)) ?_)
              ·
                refine WL.off rfl rfl rfl ?_
                refine WL.off rfl rfl rfl ?_
                refine WL.val (dx_pick rfl rfl rfl) rfl rfl ?_
                refine WL.val (dv_Fz (dx_neqB rfl Tryd.underlying4 rfl rfl) (by decide)) rfl rfl ?_
                refine WL.nil ?_
                refine hK141 ?_
                refine WC.condF rfl ?_
                refine WC.skip ?_
                refine hK26 ?_
                refine WC.region ?_
                refine WL.val (dx_move rfl rfl) rfl rfl ?_
                refine WL.val (dx_add (r := (st.i : Int) + 1) rfl rfl rfl (wrap64_id (by omega))) rfl rfl ?_
                refine WL.val (dx_assign rfl rfl) rfl rfl ?_
                refine WL.nil ?_
                replace hL := hL.less (fun x hx => (.tail _ (.tail _ hx)))
                replace h1 := h1.less (fun x hx => (.tail _ (.tail _ hx)))
                replace hM := hM.less (fun x hx => (.tail _ (.tail _ hx)))
                replace j65 := j65.less (fun x hx => (.tail _ (.tail _ hx)))
                exact hK21 ⟨st.i + 1, u64, nw, st.k, st.b, st.t⟩ ⟨(by show st.i + 1 ≤ acts.length; omega), hk', (by show 100 ≤ nw ∧ nw ≤ 100 + ((st.i + 1 : Nat) : Int) * 65535; omega), ht', hb', hB, hL, h1, hM, j65⟩ (by show acts.length - (st.i + 1) < acts.length - st.i; omega) (by repeat first | exact trivial | exact And.intro rfl trivial | refine And.intro rfl ?_ | refine And.intro (congrArg (fun z : Int => some (Value.int .i64 z)) (by omega)) ?_)
            ·
              rcases (show st.b = false ∨ st.b = true by cases st.b <;> simp) with hbb | hbb
              ·
                have q3 := (st_sh (b := st.b) hg1 hnn).2.1 hc hbb
                refine WC.region ?_
                refine WL.val (dx_move rfl rfl) rfl rfl ?_
                refine WL.val (dx_move rfl rfl) rfl rfl ?_
                refine WL.get (dx_cv rfl Tryd.func13 rfl rfl rfl (ask_v W67 [] (LL.nil _))) rfl rfl ?_
                rintro _ W144 ⟨rfl, b143⟩
                replace h1 := h1.below b143
                replace hM := hM.below b143
                replace hlv := hlv.below b143
                replace j65 := j65.below b143
                replace k62 := k62.below b143
                replace hB := below_then hB b143
                replace hL := LL.below hL b143
                refine WL.get (dx_cv rfl Tryd.func15 rfl rfl rfl ((show CV _ _ [_, _, _] _ (fun v W => v = .tuple #[.agg #[.string ⟨#[]⟩, .string ⟨#[]⟩], .int .i64 14]) from by have := shown_v [stZ st.k st.b st.t] nw askZ _ W144 (W36.heap.size :: L) hL j65 hM (sm_st _ _ _); have q4 : shM [stZ st.k st.b st.t] nw askZ = ⟨#[]⟩ := (by unfold shM; rw [if_neg (by rw [q3]; decide)]); have q5 : shW [stZ st.k st.b st.t] nw askZ = ⟨#[]⟩ := (by unfold shW; rw [if_neg (by rw [q3]; decide)]); rw [q3, q4, q5] at this; exact this))) rfl rfl ?_
                rintro _ W146 ⟨rfl, b145⟩
                replace h1 := h1.below b145
                replace hM := hM.below b145
                replace hlv := hlv.below b145
                replace j65 := j65.below b145
                replace k62 := k62.below b145
                replace hB := below_then hB b145
                replace hL := LL.below hL b145
                refine WL.val (dx_move rfl rfl) rfl rfl ?_
                refine WL.val (dx_extract rfl rfl rfl) rfl rfl ?_
                refine WL.val (dx_extract rfl rfl rfl) rfl rfl ?_
                refine WL.get (dx_alloc rfl ty_zero_24 rfl) rfl rfl ?_
                rintro _ W147 ⟨rfl, k148, b149, z150⟩
                have n151 : W36.heap.size ≠ W146.heap.size := Nat.ne_of_lt k62.lt
                have l152 := hB.size
                replace h1 := h1.more b149 (Nat.le_refl _)
                replace hM := hM.more b149 (Nat.le_refl _)
                replace hlv := hlv.more b149 (Nat.le_refl _)
                replace j65 := j65.more b149 (Nat.le_refl _)
                replace k62 := k62.below b149
                replace hB := below_then hB b149
                replace hL := LL.more hL z150
                refine WL.do (dx_store (cs' := [.string ⟨#[]⟩, .string ⟨#[]⟩]) (vs := [.string ⟨#[]⟩, .string ⟨#[]⟩]) rfl ty_size_24_2 rfl rfl rfl (oc_cons rfl (oc_cons rfl oc_nil)) k148 rfl (Nat.le_of_ble_eq_true rfl) rfl) rfl ?_
                rintro _ W153 ⟨k155, o154⟩
                replace k62 := k62.other o154 n151
                clear k148
                replace h1 := h1.only o154 (.head _)
                replace hM := hM.only o154 (.head _)
                replace hlv := hlv.only o154 (.head _)
                replace j65 := j65.only o154 (.head _)
                replace hB := o154.below hB l152
                replace hL := LL.only hL o154
                refine WL.val (dx_assign rfl rfl) rfl rfl ?_
                refine WL.nil ?_
                refine hK127 ?_
                refine WC.seq fun K156 hK156 => ?_
                refine WC.region ?_
                refine WL.val (dx_move rfl rfl) rfl rfl ?_
                refine WL.val (dx_eql rfl rfl rfl) rfl rfl ?_
                refine WL.val (dx_move rfl rfl) rfl rfl ?_
                refine WL.val (dx_move rfl rfl) rfl rfl ?_
                refine WL.split 102 rfl (fun g157 => ?_) (fun g157 => ?_)
                ·
                  exact absurd (g157.symm.trans hbb) (by decide)
                ·
                  refine WL.off rfl rfl rfl ?_
                  refine WL.off rfl rfl rfl ?_
                  refine WL.val (dx_pick rfl rfl rfl) rfl rfl ?_
                  refine WL.val (dv_Fz (dx_neqB rfl Tryd.underlying4 rfl rfl) (by decide)) rfl rfl ?_
                  refine WL.nil ?_
                  refine hK156 ?_
                  refine WC.condF rfl ?_
                  refine WC.skip ?_
                  refine hK26 ?_
                  refine WC.region ?_
                  refine WL.val (dx_move rfl rfl) rfl rfl ?_
                  refine WL.val (dx_add (r := (st.i : Int) + 1) rfl rfl rfl (wrap64_id (by omega))) rfl rfl ?_
                  refine WL.val (dx_assign rfl rfl) rfl rfl ?_
                  refine WL.nil ?_
                  replace hL := hL.less (fun x hx => (.tail _ (.tail _ hx)))
                  replace h1 := h1.less (fun x hx => (.tail _ (.tail _ hx)))
                  replace hM := hM.less (fun x hx => (.tail _ (.tail _ hx)))
                  replace j65 := j65.less (fun x hx => (.tail _ (.tail _ hx)))
                  exact hK21 ⟨st.i + 1, u64, nw, st.k, st.b, st.t⟩ ⟨(by show st.i + 1 ≤ acts.length; omega), hk', (by show 100 ≤ nw ∧ nw ≤ 100 + ((st.i + 1 : Nat) : Int) * 65535; omega), ht', hb', hB, hL, h1, hM, j65⟩ (by show acts.length - (st.i + 1) < acts.length - st.i; omega) (by repeat first | exact trivial | exact And.intro rfl trivial | refine And.intro rfl ?_ | refine And.intro (congrArg (fun z : Int => some (Value.int .i64 z)) (by omega)) ?_)
              ·
                obtain ⟨q3, q4, q5⟩ := (st_sh (b := st.b) hg1 hnn).1 hc hbb
                refine WC.region ?_
                refine WL.val (dx_move rfl rfl) rfl rfl ?_
                refine WL.val (dx_move rfl rfl) rfl rfl ?_
                refine WL.get (dx_cv rfl Tryd.func13 rfl rfl rfl (ask_v W67 [] (LL.nil _))) rfl rfl ?_
                rintro _ W159 ⟨rfl, b158⟩
                replace h1 := h1.below b158
                replace hM := hM.below b158
                replace hlv := hlv.below b158
                replace j65 := j65.below b158
                replace k62 := k62.below b158
                replace hB := below_then hB b158
                replace hL := LL.below hL b158
                refine WL.get (dx_cv rfl Tryd.func15 rfl rfl rfl ((show CV _ _ [_, _, _] _ (fun v W => v = .tuple #[.agg #[.string { data := #[101, 109, 97, 105, 108] }, .string { data := #[97, 64, 98, 46, 99] }], .int .i64 0]) from by have := shown_v [stZ st.k st.b st.t] nw askZ _ W159 (W36.heap.size :: L) hL j65 hM (sm_st _ _ _); rw [q3, q4, q5] at this; exact this))) rfl rfl ?_
                rintro _ W161 ⟨rfl, b160⟩
                replace h1 := h1.below b160
                replace hM := hM.below b160
                replace hlv := hlv.below b160
                replace j65 := j65.below b160
                replace k62 := k62.below b160
                replace hB := below_then hB b160
                replace hL := LL.below hL b160
                refine WL.val (dx_move rfl rfl) rfl rfl ?_
                refine WL.val (dx_extract rfl rfl rfl) rfl rfl ?_
                refine WL.val (dx_extract rfl rfl rfl) rfl rfl ?_
                refine WL.get (dx_alloc rfl ty_zero_24 rfl) rfl rfl ?_
                rintro _ W162 ⟨rfl, k163, b164, z165⟩
                have n166 : W36.heap.size ≠ W161.heap.size := Nat.ne_of_lt k62.lt
                have l167 := hB.size
                replace h1 := h1.more b164 (Nat.le_refl _)
                replace hM := hM.more b164 (Nat.le_refl _)
                replace hlv := hlv.more b164 (Nat.le_refl _)
                replace j65 := j65.more b164 (Nat.le_refl _)
                replace k62 := k62.below b164
                replace hB := below_then hB b164
                replace hL := LL.more hL z165
                refine WL.do (dx_store (cs' := [.string ({ data := #[101, 109, 97, 105, 108] }), .string ({ data := #[97, 64, 98, 46, 99] })]) (vs := [.string ({ data := #[101, 109, 97, 105, 108] }), .string ({ data := #[97, 64, 98, 46, 99] })]) rfl ty_size_24_2 rfl rfl rfl (oc_cons rfl (oc_cons rfl oc_nil)) k163 rfl (Nat.le_of_ble_eq_true rfl) rfl) rfl ?_
                rintro _ W168 ⟨k170, o169⟩
                replace k62 := k62.other o169 n166
                clear k163
                replace h1 := h1.only o169 (.head _)
                replace hM := hM.only o169 (.head _)
                replace hlv := hlv.only o169 (.head _)
                replace j65 := j65.only o169 (.head _)
                replace hB := o169.below hB l167
                replace hL := LL.only hL o169
                refine WL.val (dx_assign rfl rfl) rfl rfl ?_
                refine WL.nil ?_
                refine hK127 ?_
                refine WC.seq fun K171 hK171 => ?_
                refine WC.region ?_
                refine WL.val (dx_move rfl rfl) rfl rfl ?_
                refine WL.val (dx_eql rfl rfl rfl) rfl rfl ?_
                refine WL.val (dx_move rfl rfl) rfl rfl ?_
                refine WL.val (dx_move rfl rfl) rfl rfl ?_
                refine WL.split 102 rfl (fun g172 => ?_) (fun g172 => ?_)
                ·
                  refine WL.val (dx_move rfl rfl) rfl rfl ?_
                  refine WL.val (dv_T (dx_leq rfl rfl rfl) (by omega)) rfl rfl ?_
                  refine WL.val (dx_pick rfl rfl rfl) rfl rfl ?_
                  refine WL.val (dv_Fz (dx_neqB rfl Tryd.underlying4 rfl rfl) (by decide)) rfl rfl ?_
                  refine WL.nil ?_
                  refine hK171 ?_
                  refine WC.condF rfl ?_
                  refine WC.skip ?_
                  refine hK26 ?_
                  refine WC.region ?_
                  refine WL.val (dx_move rfl rfl) rfl rfl ?_
                  refine WL.val (dx_add (r := (st.i : Int) + 1) rfl rfl rfl (wrap64_id (by omega))) rfl rfl ?_
                  refine WL.val (dx_assign rfl rfl) rfl rfl ?_
                  refine WL.nil ?_
                  replace hL := hL.less (fun x hx => (.tail _ (.tail _ hx)))
                  replace h1 := h1.less (fun x hx => (.tail _ (.tail _ hx)))
                  replace hM := hM.less (fun x hx => (.tail _ (.tail _ hx)))
                  replace j65 := j65.less (fun x hx => (.tail _ (.tail _ hx)))
                  exact hK21 ⟨st.i + 1, u64, nw, st.k, st.b, st.t⟩ ⟨(by show st.i + 1 ≤ acts.length; omega), hk', (by show 100 ≤ nw ∧ nw ≤ 100 + ((st.i + 1 : Nat) : Int) * 65535; omega), ht', hb', hB, hL, h1, hM, j65⟩ (by show acts.length - (st.i + 1) < acts.length - st.i; omega) (by repeat first | exact trivial | exact And.intro rfl trivial | refine And.intro rfl ?_ | refine And.intro (congrArg (fun z : Int => some (Value.int .i64 z)) (by omega)) ?_)
                ·
                  exact absurd (g172.symm.trans hbb) (by decide)
        ·
          refine WC.region ?_
          refine WL.val (dx_move rfl rfl) rfl rfl ?_
          refine WL.val (dx_move rfl rfl) rfl rfl ?_
          refine WL.val (dx_move rfl rfl) rfl rfl ?_
          refine WL.get (dx_idxF st.i rfl ty_slice_34 rfl rfl h1 (by omega) (at_mapX e29)) rfl rfl ?_
          rintro u173 _ ⟨rfl, p174⟩
          refine WL.get (dx_fldP 1 rfl ty_fld_38_0_0 rfl p174 (cs' := [.int .u16 la]) rfl (Nat.succ_pos _)) rfl rfl ?_
          rintro u175 _ ⟨rfl, p176⟩
          refine WL.val (dx_loadP rfl ty_one_36 rfl p176) rfl rfl ?_
          refine WL.val (dx_conv (r := la) rfl Tryd.underlying36 Tryd.underlying3 rfl (wrap64_id (by omega))) rfl rfl ?_
          refine WL.val (dx_add (r := nw) rfl rfl rfl (by rw [wrap64_id (by omega)]; omega)) rfl rfl ?_
          refine WL.val (dx_assign rfl rfl) rfl rfl ?_
          refine WL.nil ?_
          refine hK27 ?_
          refine WC.seq fun K177 hK177 => ?_
          refine WC.region ?_
          refine WL.get (dx_cv rfl Tryd.func13 rfl rfl rfl (ask_v W22 [] (LL.nil _))) rfl rfl ?_
          rintro _ W179 ⟨rfl, b178⟩
          replace h1 := h1.below b178
          replace hM := hM.below b178
          replace hlv := hlv.below b178
          replace hB := below_then hB b178
          replace hL := LL.below hL b178
          refine WL.get (dx_alloc rfl ty_zero_26 rfl) rfl rfl ?_
          rintro _ W180 ⟨rfl, k181, b182, z183⟩
          have l184 := hB.size
          replace h1 := h1.more b182 (Nat.le_refl _)
          replace hM := hM.more b182 (Nat.le_refl _)
          replace hlv := hlv.more b182 (Nat.le_refl _)
          replace hB := below_then hB b182
          replace hL := LL.more hL z183
          refine WL.do (dx_store (cs' := [.int .i64 5, .string ({ data := #[115] }), .string ({ data := #[101, 109, 97, 105, 108] }), .string ({ data := #[97, 64, 98, 46, 99] }), .string ({ data := #[116] }), .int .i64 1, .int .i64 100, .int .i64 0, .bool false, .int .i64 0]) (vs := [.int .i64 5, .string ({ data := #[115] }), .string ({ data := #[101, 109, 97, 105, 108] }), .string ({ data := #[97, 64, 98, 46, 99] }), .string ({ data := #[116] }), .int .i64 1, .int .i64 100, .int .i64 0, .bool false, .int .i64 0]) rfl ty_size_26_10 rfl rfl rfl (oc_cons rfl (oc_cons rfl (oc_cons rfl (oc_cons rfl (oc_cons rfl (oc_cons rfl (oc_cons rfl (oc_cons rfl (oc_cons rfl (oc_cons rfl oc_nil)))))))))) k181 rfl (Nat.le_of_ble_eq_true rfl) rfl) rfl ?_
          rintro _ W185 ⟨k187, o186⟩
          clear k181
          replace h1 := h1.only o186 (.head _)
          replace hM := hM.only o186 (.head _)
          replace hlv := hlv.only o186 (.head _)
          replace hB := o186.below hB l184
          replace hL := LL.only hL o186
          refine WL.nil ?_
          refine hK177 ?_
          refine WC.seq fun K188 hK188 => ?_
          refine WC.seq fun K189 hK189 => ?_
          refine WC.region ?_
          refine WL.val (dx_move rfl rfl) rfl rfl ?_
          refine WL.val (dx_move rfl rfl) rfl rfl ?_
          refine WL.get (dx_idxF st.i rfl ty_slice_34 rfl rfl h1 (by omega) (at_mapX e29)) rfl rfl ?_
          rintro u190 _ ⟨rfl, p191⟩
          refine WL.get (dx_fldP 1 rfl ty_fld_38_1_1 rfl p191 (cs' := [.bool false]) rfl (Nat.succ_pos _)) rfl rfl ?_
          rintro u192 _ ⟨rfl, p193⟩
          refine WL.val (dx_loadP rfl ty_one_4 rfl p193) rfl rfl ?_
          refine WL.val (dx_not rfl rfl) rfl rfl ?_
          refine WL.nil ?_
          refine hK189 ?_
          refine WC.condT rfl ?_
          refine WC.region ?_
          refine WL.val (dx_fld (o1 := 4) rfl ty_fld_26_3_4 rfl rfl) rfl rfl ?_
          refine WL.do (dx_store (cs' := [.int .i64 5, .string ({ data := #[115] }), .string ({ data := #[101, 109, 97, 105, 108] }), .string ({ data := #[97, 64, 98, 46, 99] }), .string ({ data := #[120] }), .int .i64 1, .int .i64 100, .int .i64 0, .bool false, .int .i64 0]) (vs := [.string ({ data := #[120] })]) rfl ty_size_9_1 rfl rfl rfl (oc_cons rfl oc_nil) k187 rfl (Nat.le_of_ble_eq_true rfl) rfl) rfl ?_
          rintro _ W194 ⟨k196, o195⟩
          clear k187
          replace h1 := h1.only o195 (.head _)
          replace hM := hM.only o195 (.head _)
          replace hlv := hlv.only o195 (.head _)
          replace hB := o195.below hB l184
          replace hL := LL.only hL o195
          refine WL.nil ?_
          refine hK188 ?_
          refine WC.seq fun K197 hK197 => ?_
          refine WC.seq fun K198 hK198 => ?_
          refine WC.region ?_
          refine WL.val (dx_move rfl rfl) rfl rfl ?_
          refine WL.val (dx_move rfl rfl) rfl rfl ?_
          refine WL.get (dx_idxF st.i rfl ty_slice_34 rfl rfl h1 (by omega) (at_mapX e29)) rfl rfl ?_
          rintro u199 _ ⟨rfl, p200⟩
          refine WL.get (dx_fldP 1 rfl ty_fld_38_2_2 rfl p200 (cs' := [.bool true]) rfl (Nat.succ_pos _)) rfl rfl ?_
          rintro u201 _ ⟨rfl, p202⟩
          refine WL.val (dx_loadP rfl ty_one_4 rfl p202) rfl rfl ?_
          refine WL.val (dx_not rfl rfl) rfl rfl ?_
          refine WL.nil ?_
          refine hK198 ?_
          refine WC.condF rfl ?_
          refine WC.skip ?_
          refine hK197 ?_
          refine WC.seq fun K203 hK203 => ?_
          have hg0 := st_good (b := st.b) hk ht hb
          have hnn : 0 ≤ nw ∧ nw ≤ 1099511627776 := by omega
          rcases (show 86500 < nw ∨ (nw ≤ 86500 ∧ st.k = 3) ∨ (nw ≤ 86500 ∧ st.k ≠ 3) by omega) with hc | ⟨hc, hk3⟩ | ⟨hc, hk3⟩
          ·
            obtain ⟨q1, q2⟩ := (st_sub (b := st.b) (w := (⟨5, { data := #[115] }, { data := #[101, 109, 97, 105, 108] }, { data := #[97, 64, 98, 46, 99] }, { data := #[120] }, 1, 100, 0, false, 0⟩ : SesX)) hg0 hnn rfl).1 (fun hc2 => by have := hc2.2; omega)
            refine WC.region ?_
            refine WL.val (dx_move rfl rfl) rfl rfl ?_
            refine WL.val (dx_move rfl rfl) rfl rfl ?_
            refine WL.val (dx_loadN rfl ty_agg_26_10 rfl k196.range rfl) rfl rfl ?_
            refine WL.get (dx_cv rfl Tryd.func14 rfl rfl rfl ((show CV _ _ [_, _, _] _ (fun v W => ∃ s2, v = .tuple #[s2, .int .i64 11] ∧ RdF 10 (W179.heap.size :: L) W s2 ([stZ st.k st.b st.t].map encZ)) from by have := submit_v [stZ st.k st.b st.t] nw (⟨5, { data := #[115] }, { data := #[101, 109, 97, 105, 108] }, { data := #[97, 64, 98, 46, 99] }, { data := #[120] }, 1, 100, 0, false, 0⟩ : SesX) _ W194 (W179.heap.size :: L) hL hlv hM (sm_st _ _ _); rw [q1, q2] at this; exact this))) rfl rfl ?_
            rintro _ W207 ⟨⟨u204, rfl, j205⟩, b206⟩
            replace h1 := h1.below b206
            replace hM := hM.below b206
            replace hlv := hlv.below b206
            replace k196 := k196.below b206
            replace hB := below_then hB b206
            replace hL := LL.below hL b206
            refine WL.val (dx_move rfl rfl) rfl rfl ?_
            refine WL.val (dx_extract rfl rfl rfl) rfl rfl ?_
            refine WL.val (dx_extract rfl rfl rfl) rfl rfl ?_
            refine WL.val (dx_assign rfl rfl) rfl rfl ?_
            refine WL.val (dx_assign rfl rfl) rfl rfl ?_
            refine WL.nil ?_
            refine hK203 ?_
            refine WC.seq fun K208 hK208 => ?_
            refine WC.region ?_
            refine WL.val (dx_move rfl rfl) rfl rfl ?_
            refine WL.val (dx_assign rfl rfl) rfl rfl ?_
            refine WL.nil ?_
            refine hK208 ?_
            refine WC.seq fun K209 hK209 => ?_
            refine WC.region ?_
            refine WL.val (dx_assign rfl rfl) rfl rfl ?_
            refine WL.nil ?_
            refine hK209 ?_
            refine WC.seq fun K210 hK210 => ?_
            refine WC.block ?_
            refine WC.seq fun K211 hK211 => ?_
            refine WC.region ?_
            refine WL.val (dx_move rfl rfl) rfl rfl ?_
            refine WL.val (dx_gtr rfl rfl rfl) rfl rfl ?_
            refine WL.val (dx_move rfl rfl) rfl rfl ?_
            refine WL.split 69 rfl (fun g212 => ?_) (fun g212 => ?_)
            ·
              replace g212 := of_decide_eq_true g212
              refine WL.off rfl rfl rfl ?_
              refine WL.off rfl rfl rfl ?_
              refine WL.off rfl rfl rfl ?_
              refine WL.off rfl rfl rfl ?_
              refine WL.off rfl rfl rfl ?_
              refine WL.off rfl rfl rfl ?_
              refine WL.val (dx_pick rfl rfl rfl) rfl rfl ?_
              refine WL.val (dx_assign rfl rfl) rfl rfl ?_
              refine WL.nil ?_
              refine hK211 ?_
              refine WC.condT rfl ?_
              refine WC.region ?_
              refine WL.val (dx_assign rfl rfl) rfl rfl ?_
              refine WL.nil ?_
              refine hK210 ?_
              refine WC.seq fun K213 hK213 => ?_
              refine WC.seq fun K214 hK214 => ?_
              refine WC.region ?_
              refine WL.val (dx_move rfl rfl) rfl rfl ?_
              refine WL.val (dx_move rfl rfl) rfl rfl ?_
              refine WL.val (dx_neq rfl rfl rfl) rfl rfl ?_
              refine WL.nil ?_
              refine hK214 ?_
              refine WC.condF rfl ?_
              refine WC.skip ?_
              refine hK213 ?_
              refine WC.seq fun K215 hK215 => ?_
              have hk' : 0 ≤ st.k ∧ st.k ≤ 3 := by omega
              have ht' : 0 ≤ st.t ∧ st.t ≤ 1099511627776 := by first | omega | (split <;> omega)
              have hb' : st.b = false → st.t = 0 := hb
              have hg1 := st_good (b := st.b) hk' ht' hb'
              have q3 := (st_sh (b := st.b) hg1 hnn).2.2 hc
              refine WC.region ?_
              refine WL.val (dx_move rfl rfl) rfl rfl ?_
              refine WL.val (dx_move rfl rfl) rfl rfl ?_
              refine WL.get (dx_cv rfl Tryd.func13 rfl rfl rfl (ask_v W207 [] (LL.nil _))) rfl rfl ?_
              rintro _ W217 ⟨rfl, b216⟩
              replace h1 := h1.below b216
              replace hM := hM.below b216
              replace hlv := hlv.below b216
              replace j205 := j205.below b216
              replace k196 := k196.below b216
              replace hB := below_then hB b216
              replace hL := LL.below hL b216
              refine WL.get (dx_cv rfl Tryd.func15 rfl rfl rfl ((show CV _ _ [_, _, _] _ (fun v W => v = .tuple #[.agg #[.string ⟨#[]⟩, .string ⟨#[]⟩], .int .i64 11]) from by have := shown_v [stZ st.k st.b st.t] nw askZ _ W217 (W179.heap.size :: L) hL j205 hM (sm_st _ _ _); have q4 : shM [stZ st.k st.b st.t] nw askZ = ⟨#[]⟩ := (by unfold shM; rw [if_neg (by rw [q3]; decide)]); have q5 : shW [stZ st.k st.b st.t] nw askZ = ⟨#[]⟩ := (by unfold shW; rw [if_neg (by rw [q3]; decide)]); rw [q3, q4, q5] at this; exact this))) rfl rfl ?_
              rintro _ W219 ⟨rfl, b218⟩
              replace h1 := h1.below b218
              replace hM := hM.below b218
              replace hlv := hlv.below b218
              replace j205 := j205.below b218
              replace k196 := k196.below b218
              replace hB := below_then hB b218
              replace hL := LL.below hL b218
              refine WL.val (dx_move rfl rfl) rfl rfl ?_
              refine WL.val (dx_extract rfl rfl rfl) rfl rfl ?_
              refine WL.val (dx_extract rfl rfl rfl) rfl rfl ?_
              refine WL.get (dx_alloc rfl ty_zero_24 rfl) rfl rfl ?_
              rintro _ W220 ⟨rfl, k221, b222, z223⟩
              have n224 : W179.heap.size ≠ W219.heap.size := Nat.ne_of_lt k196.lt
              have l225 := hB.size
              replace h1 := h1.more b222 (Nat.le_refl _)
              replace hM := hM.more b222 (Nat.le_refl _)
              replace hlv := hlv.more b222 (Nat.le_refl _)
              replace j205 := j205.more b222 (Nat.le_refl _)
              replace k196 := k196.below b222
              replace hB := below_then hB b222
              replace hL := LL.more hL z223
              refine WL.do (dx_store (cs' := [.string ⟨#[]⟩, .string ⟨#[]⟩]) (vs := [.string ⟨#[]⟩, .string ⟨#[]⟩]) rfl ty_size_24_2 rfl rfl rfl (oc_cons rfl (oc_cons rfl oc_nil)) k221 rfl (Nat.le_of_ble_eq_true rfl) rfl) rfl ?_
              rintro _ W226 ⟨k228, o227⟩
              replace k196 := k196.other o227 n224
              clear k221
              replace h1 := h1.only o227 (.head _)
              replace hM := hM.only o227 (.head _)
              replace hlv := hlv.only o227 (.head _)
              replace j205 := j205.only o227 (.head _)
              replace hB := o227.below hB l225
              replace hL := LL.only hL o227
              refine WL.val (dx_assign rfl rfl) rfl rfl ?_
              refine WL.nil ?_
              refine hK215 ?_
              refine WC.seq fun K229 hK229 => ?_
              refine WC.region ?_
              refine WL.val (dx_move rfl rfl) rfl rfl ?_
              refine WL.val (dx_eql rfl rfl rfl) rfl rfl ?_
              refine WL.val (dx_move rfl rfl) rfl rfl ?_
              refine WL.val (dx_move rfl rfl) rfl rfl ?_
              refine WL.split 102 rfl (fun g230 => ?_) (fun g230 => ?_)
              ·
                refine WL.val (dx_move rfl rfl) rfl rfl ?_
                refine WL.val (dv_N (dx_leq rfl rfl rfl) (by omega)) rfl rfl ?_
                refine WL.val (dx_pick rfl rfl rfl) rfl rfl ?_
                refine WL.val (dv_Fz (dx_neqB rfl Tryd.underlying4 rfl rfl) (by decide)) rfl rfl ?_
                refine WL.nil ?_
                refine hK229 ?_
                refine WC.condF rfl ?_
                refine WC.skip ?_
                refine hK26 ?_
                refine WC.region ?_
                refine WL.val (dx_move rfl rfl) rfl rfl ?_
                refine WL.val (dx_add (r := (st.i : Int) + 1) rfl rfl rfl (wrap64_id (by omega))) rfl rfl ?_
                refine WL.val (dx_assign rfl rfl) rfl rfl ?_
                refine WL.nil ?_
                replace hL := hL.less (fun x hx => (.tail _ (.tail _ hx)))
                replace h1 := h1.less (fun x hx => (.tail _ (.tail _ hx)))
                replace hM := hM.less (fun x hx => (.tail _ (.tail _ hx)))
                replace j205 := j205.less (fun x hx => (.tail _ (.tail _ hx)))
                exact hK21 ⟨st.i + 1, u204, nw, st.k, st.b, st.t⟩ ⟨(by show st.i + 1 ≤ acts.length; omega), hk', (by show 100 ≤ nw ∧ nw ≤ 100 + ((st.i + 1 : Nat) : Int) * 65535; omega), ht', hb', hB, hL, h1, hM, j205⟩ (by show acts.length - (st.i + 1) < acts.length - st.i; omega) (by repeat first | exact trivial | exact And.intro rfl trivial | refine And.intro rfl ?_ | refine And.intro (congrArg (fun z : Int => some (Value.int .i64 z)) (by omega)) ?_)
              ·
                refine WL.off rfl rfl rfl ?_
                refine WL.off rfl rfl rfl ?_
                refine WL.val (dx_pick rfl rfl rfl) rfl rfl ?_
                refine WL.val (dv_Fz (dx_neqB rfl Tryd.underlying4 rfl rfl) (by decide)) rfl rfl ?_
                refine WL.nil ?_
                refine hK229 ?_
                refine WC.condF rfl ?_
                refine WC.skip ?_
                refine hK26 ?_
                refine WC.region ?_
                refine WL.val (dx_move rfl rfl) rfl rfl ?_
                refine WL.val (dx_add (r := (st.i : Int) + 1) rfl rfl rfl (wrap64_id (by omega))) rfl rfl ?_
                refine WL.val (dx_assign rfl rfl) rfl rfl ?_
                refine WL.nil ?_
                replace hL := hL.less (fun x hx => (.tail _ (.tail _ hx)))
                replace h1 := h1.less (fun x hx => (.tail _ (.tail _ hx)))
                replace hM := hM.less (fun x hx => (.tail _ (.tail _ hx)))
                replace j205 := j205.less (fun x hx => (.tail _ (.tail _ hx)))
                exact hK21 ⟨st.i + 1, u204, nw, st.k, st.b, st.t⟩ ⟨(by show st.i + 1 ≤ acts.length; omega), hk', (by show 100 ≤ nw ∧ nw ≤ 100 + ((st.i + 1 : Nat) : Int) * 65535; omega), ht', hb', hB, hL, h1, hM, j205⟩ (by show acts.length - (st.i + 1) < acts.length - st.i; omega) (by repeat first | exact trivial | exact And.intro rfl trivial | refine And.intro rfl ?_ | refine And.intro (congrArg (fun z : Int => some (Value.int .i64 z)) (by omega)) ?_)
            ·
              replace g212 := of_decide_eq_false g212
              exfalso; omega
          ·
            obtain ⟨q1, q2⟩ := ((st_sub (b := st.b) (w := (⟨5, { data := #[115] }, { data := #[101, 109, 97, 105, 108] }, { data := #[97, 64, 98, 46, 99] }, { data := #[120] }, 1, 100, 0, false, 0⟩ : SesX)) hg0 hnn rfl).2 rfl hc).1 hk3
            refine WC.region ?_
            refine WL.val (dx_move rfl rfl) rfl rfl ?_
            refine WL.val (dx_move rfl rfl) rfl rfl ?_
            refine WL.val (dx_loadN rfl ty_agg_26_10 rfl k196.range rfl) rfl rfl ?_
            refine WL.get (dx_cv rfl Tryd.func14 rfl rfl rfl ((show CV _ _ [_, _, _] _ (fun v W => ∃ s2, v = .tuple #[s2, .int .i64 16] ∧ RdF 10 (W179.heap.size :: L) W s2 ([stZ st.k st.b st.t].map encZ)) from by have := submit_v [stZ st.k st.b st.t] nw (⟨5, { data := #[115] }, { data := #[101, 109, 97, 105, 108] }, { data := #[97, 64, 98, 46, 99] }, { data := #[120] }, 1, 100, 0, false, 0⟩ : SesX) _ W194 (W179.heap.size :: L) hL hlv hM (sm_st _ _ _); rw [q1, q2] at this; exact this))) rfl rfl ?_
            rintro _ W234 ⟨⟨u231, rfl, j232⟩, b233⟩
            replace h1 := h1.below b233
            replace hM := hM.below b233
            replace hlv := hlv.below b233
            replace k196 := k196.below b233
            replace hB := below_then hB b233
            replace hL := LL.below hL b233
            refine WL.val (dx_move rfl rfl) rfl rfl ?_
            refine WL.val (dx_extract rfl rfl rfl) rfl rfl ?_
            refine WL.val (dx_extract rfl rfl rfl) rfl rfl ?_
            refine WL.val (dx_assign rfl rfl) rfl rfl ?_
            refine WL.val (dx_assign rfl rfl) rfl rfl ?_
            refine WL.nil ?_
            refine hK203 ?_
            refine WC.seq fun K235 hK235 => ?_
            refine WC.region ?_
            refine WL.val (dx_move rfl rfl) rfl rfl ?_
            refine WL.val (dx_assign rfl rfl) rfl rfl ?_
            refine WL.nil ?_
            refine hK235 ?_
            refine WC.seq fun K236 hK236 => ?_
            refine WC.region ?_
            refine WL.val (dx_assign rfl rfl) rfl rfl ?_
            refine WL.nil ?_
            refine hK236 ?_
            refine WC.seq fun K237 hK237 => ?_
            refine WC.block ?_
            refine WC.seq fun K238 hK238 => ?_
            refine WC.region ?_
            refine WL.val (dx_move rfl rfl) rfl rfl ?_
            refine WL.val (dx_gtr rfl rfl rfl) rfl rfl ?_
            refine WL.val (dx_move rfl rfl) rfl rfl ?_
            refine WL.split 69 rfl (fun g239 => ?_) (fun g239 => ?_)
            ·
              replace g239 := of_decide_eq_true g239
              exfalso; omega
            ·
              replace g239 := of_decide_eq_false g239
              refine WL.val (dx_move rfl rfl) rfl rfl ?_
              refine WL.val (dx_move rfl rfl) rfl rfl ?_
              refine WL.get (dx_idxF st.i rfl ty_slice_34 rfl rfl h1 (by omega) (at_mapX e29)) rfl rfl ?_
              rintro u240 _ ⟨rfl, p241⟩
              refine WL.get (dx_fldP 1 rfl ty_fld_38_2_2 rfl p241 (cs' := [.bool true]) rfl (Nat.succ_pos _)) rfl rfl ?_
              rintro u242 _ ⟨rfl, p243⟩
              refine WL.val (dx_loadP rfl ty_one_4 rfl p243) rfl rfl ?_
              refine WL.val (dx_not rfl rfl) rfl rfl ?_
              refine WL.val (dx_pick rfl rfl rfl) rfl rfl ?_
              refine WL.val (dx_assign rfl rfl) rfl rfl ?_
              refine WL.nil ?_
              refine hK238 ?_
              refine WC.condF rfl ?_
              refine WC.seq fun K244 hK244 => ?_
              refine WC.region ?_
              refine WL.val (dx_move rfl rfl) rfl rfl ?_
              refine WL.val (dx_eql rfl rfl rfl) rfl rfl ?_
              refine WL.val (dx_assign rfl rfl) rfl rfl ?_
              refine WL.nil ?_
              refine hK244 ?_
              refine WC.cond rfl (fun c245 => ?_) (fun c245 => ?_)
              ·
                replace c245 := of_decide_eq_true c245
                refine WC.region ?_
                refine WL.val (dx_assign rfl rfl) rfl rfl ?_
                refine WL.nil ?_
                refine hK237 ?_
                refine WC.seq fun K246 hK246 => ?_
                refine WC.seq fun K247 hK247 => ?_
                refine WC.region ?_
                refine WL.val (dx_move rfl rfl) rfl rfl ?_
                refine WL.val (dx_move rfl rfl) rfl rfl ?_
                refine WL.val (dx_neq rfl rfl rfl) rfl rfl ?_
                refine WL.nil ?_
                refine hK247 ?_
                refine WC.condF rfl ?_
                refine WC.skip ?_
                refine hK246 ?_
                refine WC.seq fun K248 hK248 => ?_
                have hk' : 0 ≤ st.k ∧ st.k ≤ 3 := by omega
                have ht' : 0 ≤ st.t ∧ st.t ≤ 1099511627776 := by first | omega | (split <;> omega)
                have hb' : st.b = false → st.t = 0 := hb
                have hg1 := st_good (b := st.b) hk' ht' hb'
                rcases (show st.b = false ∨ st.b = true by cases st.b <;> simp) with hbb | hbb
                ·
                  have q3 := (st_sh (b := st.b) hg1 hnn).2.1 hc hbb
                  refine WC.region ?_
                  refine WL.val (dx_move rfl rfl) rfl rfl ?_
                  refine WL.val (dx_move rfl rfl) rfl rfl ?_
                  refine WL.get (dx_cv rfl Tryd.func13 rfl rfl rfl (ask_v W234 [] (LL.nil _))) rfl rfl ?_
                  rintro _ W250 ⟨rfl, b249⟩
                  replace h1 := h1.below b249
                  replace hM := hM.below b249
                  replace hlv := hlv.below b249
                  replace j232 := j232.below b249
                  replace k196 := k196.below b249
                  replace hB := below_then hB b249
                  replace hL := LL.below hL b249
                  refine WL.get (dx_cv rfl Tryd.func15 rfl rfl rfl ((show CV _ _ [_, _, _] _ (fun v W => v = .tuple #[.agg #[.string ⟨#[]⟩, .string ⟨#[]⟩], .int .i64 14]) from by have := shown_v [stZ st.k st.b st.t] nw askZ _ W250 (W179.heap.size :: L) hL j232 hM (sm_st _ _ _); have q4 : shM [stZ st.k st.b st.t] nw askZ = ⟨#[]⟩ := (by unfold shM; rw [if_neg (by rw [q3]; decide)]); have q5 : shW [stZ st.k st.b st.t] nw askZ = ⟨#[]⟩ := (by unfold shW; rw [if_neg (by rw [q3]; decide)]); rw [q3, q4, q5] at this; exact this))) rfl rfl ?_
                  rintro _ W252 ⟨rfl, b251⟩
                  replace h1 := h1.below b251
                  replace hM := hM.below b251
                  replace hlv := hlv.below b251
                  replace j232 := j232.below b251
                  replace k196 := k196.below b251
                  replace hB := below_then hB b251
                  replace hL := LL.below hL b251
                  refine WL.val (dx_move rfl rfl) rfl rfl ?_
                  refine WL.val (dx_extract rfl rfl rfl) rfl rfl ?_
                  refine WL.val (dx_extract rfl rfl rfl) rfl rfl ?_
                  refine WL.get (dx_alloc rfl ty_zero_24 rfl) rfl rfl ?_
                  rintro _ W253 ⟨rfl, k254, b255, z256⟩
                  have n257 : W179.heap.size ≠ W252.heap.size := Nat.ne_of_lt k196.lt
                  have l258 := hB.size
                  replace h1 := h1.more b255 (Nat.le_refl _)
                  replace hM := hM.more b255 (Nat.le_refl _)
                  replace hlv := hlv.more b255 (Nat.le_refl _)
                  replace j232 := j232.more b255 (Nat.le_refl _)
                  replace k196 := k196.below b255
                  replace hB := below_then hB b255
                  replace hL := LL.more hL z256
                  refine WL.do (dx_store (cs' := [.string ⟨#[]⟩, .string ⟨#[]⟩]) (vs := [.string ⟨#[]⟩, .string ⟨#[]⟩]) rfl ty_size_24_2 rfl rfl rfl (oc_cons rfl (oc_cons rfl oc_nil)) k254 rfl (Nat.le_of_ble_eq_true rfl) rfl) rfl ?_
                  rintro _ W259 ⟨k261, o260⟩
                  replace k196 := k196.other o260 n257
                  clear k254
                  replace h1 := h1.only o260 (.head _)
                  replace hM := hM.only o260 (.head _)
                  replace hlv := hlv.only o260 (.head _)
                  replace j232 := j232.only o260 (.head _)
                  replace hB := o260.below hB l258
                  replace hL := LL.only hL o260
                  refine WL.val (dx_assign rfl rfl) rfl rfl ?_
                  refine WL.nil ?_
                  refine hK248 ?_
                  refine WC.seq fun K262 hK262 => ?_
                  refine WC.region ?_
                  refine WL.val (dx_move rfl rfl) rfl rfl ?_
                  refine WL.val (dx_eql rfl rfl rfl) rfl rfl ?_
                  refine WL.val (dx_move rfl rfl) rfl rfl ?_
                  refine WL.val (dx_move rfl rfl) rfl rfl ?_
                  refine WL.split 102 rfl (fun g263 => ?_) (fun g263 => ?_)
                  ·
                    exact absurd (g263.symm.trans hbb) (by decide)
                  ·
                    refine WL.off rfl rfl rfl ?_
                    refine WL.off rfl rfl rfl ?_
                    refine WL.val (dx_pick rfl rfl rfl) rfl rfl ?_
                    refine WL.val (dv_Fz (dx_neqB rfl Tryd.underlying4 rfl rfl) (by decide)) rfl rfl ?_
                    refine WL.nil ?_
                    refine hK262 ?_
                    refine WC.condF rfl ?_
                    refine WC.skip ?_
                    refine hK26 ?_
                    refine WC.region ?_
                    refine WL.val (dx_move rfl rfl) rfl rfl ?_
                    refine WL.val (dx_add (r := (st.i : Int) + 1) rfl rfl rfl (wrap64_id (by omega))) rfl rfl ?_
                    refine WL.val (dx_assign rfl rfl) rfl rfl ?_
                    refine WL.nil ?_
                    replace hL := hL.less (fun x hx => (.tail _ (.tail _ hx)))
                    replace h1 := h1.less (fun x hx => (.tail _ (.tail _ hx)))
                    replace hM := hM.less (fun x hx => (.tail _ (.tail _ hx)))
                    replace j232 := j232.less (fun x hx => (.tail _ (.tail _ hx)))
                    exact hK21 ⟨st.i + 1, u231, nw, st.k, st.b, st.t⟩ ⟨(by show st.i + 1 ≤ acts.length; omega), hk', (by show 100 ≤ nw ∧ nw ≤ 100 + ((st.i + 1 : Nat) : Int) * 65535; omega), ht', hb', hB, hL, h1, hM, j232⟩ (by show acts.length - (st.i + 1) < acts.length - st.i; omega) (by repeat first | exact trivial | exact And.intro rfl trivial | refine And.intro rfl ?_ | refine And.intro (congrArg (fun z : Int => some (Value.int .i64 z)) (by omega)) ?_)
                ·
                  obtain ⟨q3, q4, q5⟩ := (st_sh (b := st.b) hg1 hnn).1 hc hbb
                  refine WC.region ?_
                  refine WL.val (dx_move rfl rfl) rfl rfl ?_
                  refine WL.val (dx_move rfl rfl) rfl rfl ?_
                  refine WL.get (dx_cv rfl Tryd.func13 rfl rfl rfl (ask_v W234 [] (LL.nil _))) rfl rfl ?_
                  rintro _ W265 ⟨rfl, b264⟩
                  replace h1 := h1.below b264
                  replace hM := hM.below b264
                  replace hlv := hlv.below b264
                  replace j232 := j232.below b264
                  replace k196 := k196.below b264
                  replace hB := below_then hB b264
                  replace hL := LL.below hL b264
                  refine WL.get (dx_cv rfl Tryd.func15 rfl rfl rfl ((show CV _ _ [_, _, _] _ (fun v W => v = .tuple #[.agg #[.string { data := #[101, 109, 97, 105, 108] }, .string { data := #[97, 64, 98, 46, 99] }], .int .i64 0]) from by have := shown_v [stZ st.k st.b st.t] nw askZ _ W265 (W179.heap.size :: L) hL j232 hM (sm_st _ _ _); rw [q3, q4, q5] at this; exact this))) rfl rfl ?_
                  rintro _ W267 ⟨rfl, b266⟩
                  replace h1 := h1.below b266
                  replace hM := hM.below b266
                  replace hlv := hlv.below b266
                  replace j232 := j232.below b266
                  replace k196 := k196.below b266
                  replace hB := below_then hB b266
                  replace hL := LL.below hL b266
                  refine WL.val (dx_move rfl rfl) rfl rfl ?_
                  refine WL.val (dx_extract rfl rfl rfl) rfl rfl ?_
                  refine WL.val (dx_extract rfl rfl rfl) rfl rfl ?_
                  refine WL.get (dx_alloc rfl ty_zero_24 rfl) rfl rfl ?_
                  rintro _ W268 ⟨rfl, k269, b270, z271⟩
                  have n272 : W179.heap.size ≠ W267.heap.size := Nat.ne_of_lt k196.lt
                  have l273 := hB.size
                  replace h1 := h1.more b270 (Nat.le_refl _)
                  replace hM := hM.more b270 (Nat.le_refl _)
                  replace hlv := hlv.more b270 (Nat.le_refl _)
                  replace j232 := j232.more b270 (Nat.le_refl _)
                  replace k196 := k196.below b270
                  replace hB := below_then hB b270
                  replace hL := LL.more hL z271
                  refine WL.do (dx_store (cs' := [.string ({ data := #[101, 109, 97, 105, 108] }), .string ({ data := #[97, 64, 98, 46, 99] })]) (vs := [.string ({ data := #[101, 109, 97, 105, 108] }), .string ({ data := #[97, 64, 98, 46, 99] })]) rfl ty_size_24_2 rfl rfl rfl (oc_cons rfl (oc_cons rfl oc_nil)) k269 rfl (Nat.le_of_ble_eq_true rfl) rfl) rfl ?_
                  rintro _ W274 ⟨k276, o275⟩
                  replace k196 := k196.other o275 n272
                  clear k269
                  replace h1 := h1.only o275 (.head _)
                  replace hM := hM.only o275 (.head _)
                  replace hlv := hlv.only o275 (.head _)
                  replace j232 := j232.only o275 (.head _)
                  replace hB := o275.below hB l273
                  replace hL := LL.only hL o275
                  refine WL.val (dx_assign rfl rfl) rfl rfl ?_
                  refine WL.nil ?_
                  refine hK248 ?_
                  refine WC.seq fun K277 hK277 => ?_
                  refine WC.region ?_
                  refine WL.val (dx_move rfl rfl) rfl rfl ?_
                  refine WL.val (dx_eql rfl rfl rfl) rfl rfl ?_
                  refine WL.val (dx_move rfl rfl) rfl rfl ?_
                  refine WL.val (dx_move rfl rfl) rfl rfl ?_
                  refine WL.split 102 rfl (fun g278 => ?_) (fun g278 => ?_)
                  ·
                    refine WL.val (dx_move rfl rfl) rfl rfl ?_
                    refine WL.val (dv_T (dx_leq rfl rfl rfl) (by omega)) rfl rfl ?_
                    refine WL.val (dx_pick rfl rfl rfl) rfl rfl ?_
                    refine WL.val (dv_Fz (dx_neqB rfl Tryd.underlying4 rfl rfl) (by decide)) rfl rfl ?_
                    refine WL.nil ?_
                    refine hK277 ?_
                    refine WC.condF rfl ?_
                    refine WC.skip ?_
                    refine hK26 ?_
                    refine WC.region ?_
                    refine WL.val (dx_move rfl rfl) rfl rfl ?_
                    refine WL.val (dx_add (r := (st.i : Int) + 1) rfl rfl rfl (wrap64_id (by omega))) rfl rfl ?_
                    refine WL.val (dx_assign rfl rfl) rfl rfl ?_
                    refine WL.nil ?_
                    replace hL := hL.less (fun x hx => (.tail _ (.tail _ hx)))
                    replace h1 := h1.less (fun x hx => (.tail _ (.tail _ hx)))
                    replace hM := hM.less (fun x hx => (.tail _ (.tail _ hx)))
                    replace j232 := j232.less (fun x hx => (.tail _ (.tail _ hx)))
                    exact hK21 ⟨st.i + 1, u231, nw, st.k, st.b, st.t⟩ ⟨(by show st.i + 1 ≤ acts.length; omega), hk', (by show 100 ≤ nw ∧ nw ≤ 100 + ((st.i + 1 : Nat) : Int) * 65535; omega), ht', hb', hB, hL, h1, hM, j232⟩ (by show acts.length - (st.i + 1) < acts.length - st.i; omega) (by repeat first | exact trivial | exact And.intro rfl trivial | refine And.intro rfl ?_ | refine And.intro (congrArg (fun z : Int => some (Value.int .i64 z)) (by omega)) ?_)
                  ·
                    exact absurd (g278.symm.trans hbb) (by decide)
              ·
                replace c245 := of_decide_eq_false c245
                exfalso; omega
          ·
            obtain ⟨q1, q2⟩ := (((st_sub (b := st.b) (w := (⟨5, { data := #[115] }, { data := #[101, 109, 97, 105, 108] }, { data := #[97, 64, 98, 46, 99] }, { data := #[120] }, 1, 100, 0, false, 0⟩ : SesX)) hg0 hnn rfl).2 rfl hc).2 hk3).2 (by decide)
            refine WC.region ?_
            refine WL.val (dx_move rfl rfl) rfl rfl ?_
            refine WL.val (dx_move rfl rfl) rfl rfl ?_
            refine WL.val (dx_loadN rfl ty_agg_26_10 rfl k196.range rfl) rfl rfl ?_
            refine WL.get (dx_cv rfl Tryd.func14 rfl rfl rfl ((show CV _ _ [_, _, _] _ (fun v W => ∃ s2, v = .tuple #[s2, .int .i64 12] ∧ RdF 10 (W179.heap.size :: L) W s2 ([stZ (st.k + 1) st.b st.t].map encZ)) from by have := submit_v [stZ st.k st.b st.t] nw (⟨5, { data := #[115] }, { data := #[101, 109, 97, 105, 108] }, { data := #[97, 64, 98, 46, 99] }, { data := #[120] }, 1, 100, 0, false, 0⟩ : SesX) _ W194 (W179.heap.size :: L) hL hlv hM (sm_st _ _ _); rw [q1, q2] at this; exact this))) rfl rfl ?_
            rintro _ W282 ⟨⟨u279, rfl, j280⟩, b281⟩
            replace h1 := h1.below b281
            replace hM := hM.below b281
            replace hlv := hlv.below b281
            replace k196 := k196.below b281
            replace hB := below_then hB b281
            replace hL := LL.below hL b281
            refine WL.val (dx_move rfl rfl) rfl rfl ?_
            refine WL.val (dx_extract rfl rfl rfl) rfl rfl ?_
            refine WL.val (dx_extract rfl rfl rfl) rfl rfl ?_
            refine WL.val (dx_assign rfl rfl) rfl rfl ?_
            refine WL.val (dx_assign rfl rfl) rfl rfl ?_
            refine WL.nil ?_
            refine hK203 ?_
            refine WC.seq fun K283 hK283 => ?_
            refine WC.region ?_
            refine WL.val (dx_move rfl rfl) rfl rfl ?_
            refine WL.val (dx_assign rfl rfl) rfl rfl ?_
            refine WL.nil ?_
            refine hK283 ?_
            refine WC.seq fun K284 hK284 => ?_
            refine WC.region ?_
            refine WL.val (dx_assign rfl rfl) rfl rfl ?_
            refine WL.nil ?_
            refine hK284 ?_
            refine WC.seq fun K285 hK285 => ?_
            refine WC.block ?_
            refine WC.seq fun K286 hK286 => ?_
            refine WC.region ?_
            refine WL.val (dx_move rfl rfl) rfl rfl ?_
            refine WL.val (dx_gtr rfl rfl rfl) rfl rfl ?_
            refine WL.val (dx_move rfl rfl) rfl rfl ?_
            refine WL.split 69 rfl (fun g287 => ?_) (fun g287 => ?_)
            ·
              replace g287 := of_decide_eq_true g287
              exfalso; omega
            ·
              replace g287 := of_decide_eq_false g287
              refine WL.val (dx_move rfl rfl) rfl rfl ?_
              refine WL.val (dx_move rfl rfl) rfl rfl ?_
              refine WL.get (dx_idxF st.i rfl ty_slice_34 rfl rfl h1 (by omega) (at_mapX e29)) rfl rfl ?_
              rintro u288 _ ⟨rfl, p289⟩
              refine WL.get (dx_fldP 1 rfl ty_fld_38_2_2 rfl p289 (cs' := [.bool true]) rfl (Nat.succ_pos _)) rfl rfl ?_
              rintro u290 _ ⟨rfl, p291⟩
              refine WL.val (dx_loadP rfl ty_one_4 rfl p291) rfl rfl ?_
              refine WL.val (dx_not rfl rfl) rfl rfl ?_
              refine WL.val (dx_pick rfl rfl rfl) rfl rfl ?_
              refine WL.val (dx_assign rfl rfl) rfl rfl ?_
              refine WL.nil ?_
              refine hK286 ?_
              refine WC.condF rfl ?_
              refine WC.seq fun K292 hK292 => ?_
              refine WC.region ?_
              refine WL.val (dx_move rfl rfl) rfl rfl ?_
              refine WL.val (dx_eql rfl rfl rfl) rfl rfl ?_
              refine WL.val (dx_assign rfl rfl) rfl rfl ?_
              refine WL.nil ?_
              refine hK292 ?_
              refine WC.cond rfl (fun c293 => ?_) (fun c293 => ?_)
              ·
                replace c293 := of_decide_eq_true c293
                exfalso; omega
              ·
                replace c293 := of_decide_eq_false c293
                refine WC.seq fun K294 hK294 => ?_
                refine WC.region ?_
                refine WL.val (dx_move rfl rfl) rfl rfl ?_
                refine WL.val (dx_move rfl rfl) rfl rfl ?_
                refine WL.get (dx_idxF st.i rfl ty_slice_34 rfl rfl h1 (by omega) (at_mapX e29)) rfl rfl ?_
                rintro u295 _ ⟨rfl, p296⟩
                refine WL.get (dx_fldP 1 rfl ty_fld_38_1_1 rfl p296 (cs' := [.bool false]) rfl (Nat.succ_pos _)) rfl rfl ?_
                rintro u297 _ ⟨rfl, p298⟩
                refine WL.val (dx_loadP rfl ty_one_4 rfl p298) rfl rfl ?_
                refine WL.val (dx_not rfl rfl) rfl rfl ?_
                refine WL.val (dx_assign rfl rfl) rfl rfl ?_
                refine WL.nil ?_
                refine hK294 ?_
                refine WC.condT rfl ?_
                refine WC.seq fun K299 hK299 => ?_
                refine WC.region ?_
                refine WL.val (dx_assign rfl rfl) rfl rfl ?_
                refine WL.nil ?_
                refine hK299 ?_
                refine WC.region ?_
                refine WL.val (dx_move rfl rfl) rfl rfl ?_
                refine WL.val (dx_add (r := st.k + 1) rfl rfl rfl (wrap64_id (by omega))) rfl rfl ?_
                refine WL.val (dx_assign rfl rfl) rfl rfl ?_
                refine WL.nil ?_
                refine hK285 ?_
                refine WC.seq fun K300 hK300 => ?_
                refine WC.seq fun K301 hK301 => ?_
                refine WC.region ?_
                refine WL.val (dx_move rfl rfl) rfl rfl ?_
                refine WL.val (dx_move rfl rfl) rfl rfl ?_
                refine WL.val (dx_neq rfl rfl rfl) rfl rfl ?_
                refine WL.nil ?_
                refine hK301 ?_
                refine WC.condF rfl ?_
                refine WC.skip ?_
                refine hK300 ?_
                refine WC.seq fun K302 hK302 => ?_
                have hk' : 0 ≤ (st.k + 1) ∧ (st.k + 1) ≤ 3 := by omega
                have ht' : 0 ≤ st.t ∧ st.t ≤ 1099511627776 := by first | omega | (split <;> omega)
                have hb' : st.b = false → st.t = 0 := hb
                have hg1 := st_good (b := st.b) hk' ht' hb'
                rcases (show st.b = false ∨ st.b = true by cases st.b <;> simp) with hbb | hbb
                ·
                  have q3 := (st_sh (b := st.b) hg1 hnn).2.1 hc hbb
                  refine WC.region ?_
                  refine WL.val (dx_move rfl rfl) rfl rfl ?_
                  refine WL.val (dx_move rfl rfl) rfl rfl ?_
                  refine WL.get (dx_cv rfl Tryd.func13 rfl rfl rfl (ask_v W282 [] (LL.nil _))) rfl rfl ?_
                  rintro _ W304 ⟨rfl, b303⟩
                  replace h1 := h1.below b303
                  replace hM := hM.below b303
                  replace hlv := hlv.below b303
                  replace j280 := j280.below b303
                  replace k196 := k196.below b303
                  replace hB := below_then hB b303
                  replace hL := LL.below hL b303
                  refine WL.get (dx_cv rfl Tryd.func15 rfl rfl rfl ((show CV _ _ [_, _, _] _ (fun v W => v = .tuple #[.agg #[.string ⟨#[]⟩, .string ⟨#[]⟩], .int .i64 14]) from by have := shown_v [stZ (st.k + 1) st.b st.t] nw askZ _ W304 (W179.heap.size :: L) hL j280 hM (sm_st _ _ _); have q4 : shM [stZ (st.k + 1) st.b st.t] nw askZ = ⟨#[]⟩ := (by unfold shM; rw [if_neg (by rw [q3]; decide)]); have q5 : shW [stZ (st.k + 1) st.b st.t] nw askZ = ⟨#[]⟩ := (by unfold shW; rw [if_neg (by rw [q3]; decide)]); rw [q3, q4, q5] at this; exact this))) rfl rfl ?_
                  rintro _ W306 ⟨rfl, b305⟩
                  replace h1 := h1.below b305
                  replace hM := hM.below b305
                  replace hlv := hlv.below b305
                  replace j280 := j280.below b305
                  replace k196 := k196.below b305
                  replace hB := below_then hB b305
                  replace hL := LL.below hL b305
                  refine WL.val (dx_move rfl rfl) rfl rfl ?_
                  refine WL.val (dx_extract rfl rfl rfl) rfl rfl ?_
                  refine WL.val (dx_extract rfl rfl rfl) rfl rfl ?_
                  refine WL.get (dx_alloc rfl ty_zero_24 rfl) rfl rfl ?_
                  rintro _ W307 ⟨rfl, k308, b309, z310⟩
                  have n311 : W179.heap.size ≠ W306.heap.size := Nat.ne_of_lt k196.lt
                  have l312 := hB.size
                  replace h1 := h1.more b309 (Nat.le_refl _)
                  replace hM := hM.more b309 (Nat.le_refl _)
                  replace hlv := hlv.more b309 (Nat.le_refl _)
                  replace j280 := j280.more b309 (Nat.le_refl _)
                  replace k196 := k196.below b309
                  replace hB := below_then hB b309
                  replace hL := LL.more hL z310
                  refine WL.do (dx_store (cs' := [.string ⟨#[]⟩, .string ⟨#[]⟩]) (vs := [.string ⟨#[]⟩, .string ⟨#[]⟩]) rfl ty_size_24_2 rfl rfl rfl (oc_cons rfl (oc_cons rfl oc_nil)) k308 rfl (Nat.le_of_ble_eq_true rfl) rfl) rfl ?_
                  rintro _ W313 ⟨k315, o314⟩
                  replace k196 := k196.other o314 n311
                  clear k308
                  replace h1 := h1.only o314 (.head _)
                  replace hM := hM.only o314 (.head _)
                  replace hlv := hlv.only o314 (.head _)
                  replace j280 := j280.only o314 (.head _)
                  replace hB := o314.below hB l312
                  replace hL := LL.only hL o314
                  refine WL.val (dx_assign rfl rfl) rfl rfl ?_
                  refine WL.nil ?_
                  refine hK302 ?_
                  refine WC.seq fun K316 hK316 => ?_
                  refine WC.region ?_
                  refine WL.val (dx_move rfl rfl) rfl rfl ?_
                  refine WL.val (dx_eql rfl rfl rfl) rfl rfl ?_
                  refine WL.val (dx_move rfl rfl) rfl rfl ?_
                  refine WL.val (dx_move rfl rfl) rfl rfl ?_
                  refine WL.split 102 rfl (fun g317 => ?_) (fun g317 => ?_)
                  ·
                    exact absurd (g317.symm.trans hbb) (by decide)
                  ·
                    refine WL.off rfl rfl rfl ?_
                    refine WL.off rfl rfl rfl ?_
                    refine WL.val (dx_pick rfl rfl rfl) rfl rfl ?_
                    refine WL.val (dv_Fz (dx_neqB rfl Tryd.underlying4 rfl rfl) (by decide)) rfl rfl ?_
                    refine WL.nil ?_
                    refine hK316 ?_
                    refine WC.condF rfl ?_
                    refine WC.skip ?_
                    refine hK26 ?_
                    refine WC.region ?_
                    refine WL.val (dx_move rfl rfl) rfl rfl ?_
                    refine WL.val (dx_add (r := (st.i : Int) + 1) rfl rfl rfl (wrap64_id (by omega))) rfl rfl ?_
                    refine WL.val (dx_assign rfl rfl) rfl rfl ?_
                    refine WL.nil ?_
                    replace hL := hL.less (fun x hx => (.tail _ (.tail _ hx)))
                    replace h1 := h1.less (fun x hx => (.tail _ (.tail _ hx)))
                    replace hM := hM.less (fun x hx => (.tail _ (.tail _ hx)))
                    replace j280 := j280.less (fun x hx => (.tail _ (.tail _ hx)))
                    exact hK21 ⟨st.i + 1, u279, nw, (st.k + 1), st.b, st.t⟩ ⟨(by show st.i + 1 ≤ acts.length; omega), hk', (by show 100 ≤ nw ∧ nw ≤ 100 + ((st.i + 1 : Nat) : Int) * 65535; omega), ht', hb', hB, hL, h1, hM, j280⟩ (by show acts.length - (st.i + 1) < acts.length - st.i; omega) (by repeat first | exact trivial | exact And.intro rfl trivial | refine And.intro rfl ?_ | refine And.intro (congrArg (fun z : Int => some (Value.int .i64 z)) (by omega)) ?_)
                ·
                  obtain ⟨q3, q4, q5⟩ := (st_sh (b := st.b) hg1 hnn).1 hc hbb
                  refine WC.region ?_
                  refine WL.val (dx_move rfl rfl) rfl rfl ?_
                  refine WL.val (dx_move rfl rfl) rfl rfl ?_
                  refine WL.get (dx_cv rfl Tryd.func13 rfl rfl rfl (ask_v W282 [] (LL.nil _))) rfl rfl ?_
                  rintro _ W319 ⟨rfl, b318⟩
                  replace h1 := h1.below b318
                  replace hM := hM.below b318
                  replace hlv := hlv.below b318
                  replace j280 := j280.below b318
                  replace k196 := k196.below b318
                  replace hB := below_then hB b318
                  replace hL := LL.below hL b318
                  refine WL.get (dx_cv rfl Tryd.func15 rfl rfl rfl ((show CV _ _ [_, _, _] _ (fun v W => v = .tuple #[.agg #[.string { data := #[101, 109, 97, 105, 108] }, .string { data := #[97, 64, 98, 46, 99] }], .int .i64 0]) from by have := shown_v [stZ (st.k + 1) st.b st.t] nw askZ _ W319 (W179.heap.size :: L) hL j280 hM (sm_st _ _ _); rw [q3, q4, q5] at this; exact this))) rfl rfl ?_
                  rintro _ W321 ⟨rfl, b320⟩
                  replace h1 := h1.below b320
                  replace hM := hM.below b320
                  replace hlv := hlv.below b320
                  replace j280 := j280.below b320
                  replace k196 := k196.below b320
                  replace hB := below_then hB b320
                  replace hL := LL.below hL b320
                  refine WL.val (dx_move rfl rfl) rfl rfl ?_
                  refine WL.val (dx_extract rfl rfl rfl) rfl rfl ?_
                  refine WL.val (dx_extract rfl rfl rfl) rfl rfl ?_
                  refine WL.get (dx_alloc rfl ty_zero_24 rfl) rfl rfl ?_
                  rintro _ W322 ⟨rfl, k323, b324, z325⟩
                  have n326 : W179.heap.size ≠ W321.heap.size := Nat.ne_of_lt k196.lt
                  have l327 := hB.size
                  replace h1 := h1.more b324 (Nat.le_refl _)
                  replace hM := hM.more b324 (Nat.le_refl _)
                  replace hlv := hlv.more b324 (Nat.le_refl _)
                  replace j280 := j280.more b324 (Nat.le_refl _)
                  replace k196 := k196.below b324
                  replace hB := below_then hB b324
                  replace hL := LL.more hL z325
                  refine WL.do (dx_store (cs' := [.string ({ data := #[101, 109, 97, 105, 108] }), .string ({ data := #[97, 64, 98, 46, 99] })]) (vs := [.string ({ data := #[101, 109, 97, 105, 108] }), .string ({ data := #[97, 64, 98, 46, 99] })]) rfl ty_size_24_2 rfl rfl rfl (oc_cons rfl (oc_cons rfl oc_nil)) k323 rfl (Nat.le_of_ble_eq_true rfl) rfl) rfl ?_
                  rintro _ W328 ⟨k330, o329⟩
                  replace k196 := k196.other o329 n326
                  clear k323
                  replace h1 := h1.only o329 (.head _)
                  replace hM := hM.only o329 (.head _)
                  replace hlv := hlv.only o329 (.head _)
                  replace j280 := j280.only o329 (.head _)
                  replace hB := o329.below hB l327
                  replace hL := LL.only hL o329
                  refine WL.val (dx_assign rfl rfl) rfl rfl ?_
                  refine WL.nil ?_
                  refine hK302 ?_
                  refine WC.seq fun K331 hK331 => ?_
                  refine WC.region ?_
                  refine WL.val (dx_move rfl rfl) rfl rfl ?_
                  refine WL.val (dx_eql rfl rfl rfl) rfl rfl ?_
                  refine WL.val (dx_move rfl rfl) rfl rfl ?_
                  refine WL.val (dx_move rfl rfl) rfl rfl ?_
                  refine WL.split 102 rfl (fun g332 => ?_) (fun g332 => ?_)
                  ·
                    refine WL.val (dx_move rfl rfl) rfl rfl ?_
                    refine WL.val (dv_T (dx_leq rfl rfl rfl) (by omega)) rfl rfl ?_
                    refine WL.val (dx_pick rfl rfl rfl) rfl rfl ?_
                    refine WL.val (dv_Fz (dx_neqB rfl Tryd.underlying4 rfl rfl) (by decide)) rfl rfl ?_
                    refine WL.nil ?_
                    refine hK331 ?_
                    refine WC.condF rfl ?_
                    refine WC.skip ?_
                    refine hK26 ?_
                    refine WC.region ?_
                    refine WL.val (dx_move rfl rfl) rfl rfl ?_
                    refine WL.val (dx_add (r := (st.i : Int) + 1) rfl rfl rfl (wrap64_id (by omega))) rfl rfl ?_
                    refine WL.val (dx_assign rfl rfl) rfl rfl ?_
                    refine WL.nil ?_
                    replace hL := hL.less (fun x hx => (.tail _ (.tail _ hx)))
                    replace h1 := h1.less (fun x hx => (.tail _ (.tail _ hx)))
                    replace hM := hM.less (fun x hx => (.tail _ (.tail _ hx)))
                    replace j280 := j280.less (fun x hx => (.tail _ (.tail _ hx)))
                    exact hK21 ⟨st.i + 1, u279, nw, (st.k + 1), st.b, st.t⟩ ⟨(by show st.i + 1 ≤ acts.length; omega), hk', (by show 100 ≤ nw ∧ nw ≤ 100 + ((st.i + 1 : Nat) : Int) * 65535; omega), ht', hb', hB, hL, h1, hM, j280⟩ (by show acts.length - (st.i + 1) < acts.length - st.i; omega) (by repeat first | exact trivial | exact And.intro rfl trivial | refine And.intro rfl ?_ | refine And.intro (congrArg (fun z : Int => some (Value.int .i64 z)) (by omega)) ?_)
                  ·
                    exact absurd (g332.symm.trans hbb) (by decide)
      ·
        cases ss
        ·
          refine WC.region ?_
          refine WL.val (dx_move rfl rfl) rfl rfl ?_
          refine WL.val (dx_move rfl rfl) rfl rfl ?_
          refine WL.val (dx_move rfl rfl) rfl rfl ?_
          refine WL.get (dx_idxF st.i rfl ty_slice_34 rfl rfl h1 (by omega) (at_mapX e29)) rfl rfl ?_
          rintro u333 _ ⟨rfl, p334⟩
          refine WL.get (dx_fldP 1 rfl ty_fld_38_0_0 rfl p334 (cs' := [.int .u16 la]) rfl (Nat.succ_pos _)) rfl rfl ?_
          rintro u335 _ ⟨rfl, p336⟩
          refine WL.val (dx_loadP rfl ty_one_36 rfl p336) rfl rfl ?_
          refine WL.val (dx_conv (r := la) rfl Tryd.underlying36 Tryd.underlying3 rfl (wrap64_id (by omega))) rfl rfl ?_
          refine WL.val (dx_add (r := nw) rfl rfl rfl (by rw [wrap64_id (by omega)]; omega)) rfl rfl ?_
          refine WL.val (dx_assign rfl rfl) rfl rfl ?_
          refine WL.nil ?_
          refine hK27 ?_
          refine WC.seq fun K337 hK337 => ?_
          refine WC.region ?_
          refine WL.get (dx_cv rfl Tryd.func13 rfl rfl rfl (ask_v W22 [] (LL.nil _))) rfl rfl ?_
          rintro _ W339 ⟨rfl, b338⟩
          replace h1 := h1.below b338
          replace hM := hM.below b338
          replace hlv := hlv.below b338
          replace hB := below_then hB b338
          replace hL := LL.below hL b338
          refine WL.get (dx_alloc rfl ty_zero_26 rfl) rfl rfl ?_
          rintro _ W340 ⟨rfl, k341, b342, z343⟩
          have l344 := hB.size
          replace h1 := h1.more b342 (Nat.le_refl _)
          replace hM := hM.more b342 (Nat.le_refl _)
          replace hlv := hlv.more b342 (Nat.le_refl _)
          replace hB := below_then hB b342
          replace hL := LL.more hL z343
          refine WL.do (dx_store (cs' := [.int .i64 5, .string ({ data := #[115] }), .string ({ data := #[101, 109, 97, 105, 108] }), .string ({ data := #[97, 64, 98, 46, 99] }), .string ({ data := #[116] }), .int .i64 1, .int .i64 100, .int .i64 0, .bool false, .int .i64 0]) (vs := [.int .i64 5, .string ({ data := #[115] }), .string ({ data := #[101, 109, 97, 105, 108] }), .string ({ data := #[97, 64, 98, 46, 99] }), .string ({ data := #[116] }), .int .i64 1, .int .i64 100, .int .i64 0, .bool false, .int .i64 0]) rfl ty_size_26_10 rfl rfl rfl (oc_cons rfl (oc_cons rfl (oc_cons rfl (oc_cons rfl (oc_cons rfl (oc_cons rfl (oc_cons rfl (oc_cons rfl (oc_cons rfl (oc_cons rfl oc_nil)))))))))) k341 rfl (Nat.le_of_ble_eq_true rfl) rfl) rfl ?_
          rintro _ W345 ⟨k347, o346⟩
          clear k341
          replace h1 := h1.only o346 (.head _)
          replace hM := hM.only o346 (.head _)
          replace hlv := hlv.only o346 (.head _)
          replace hB := o346.below hB l344
          replace hL := LL.only hL o346
          refine WL.nil ?_
          refine hK337 ?_
          refine WC.seq fun K348 hK348 => ?_
          refine WC.seq fun K349 hK349 => ?_
          refine WC.region ?_
          refine WL.val (dx_move rfl rfl) rfl rfl ?_
          refine WL.val (dx_move rfl rfl) rfl rfl ?_
          refine WL.get (dx_idxF st.i rfl ty_slice_34 rfl rfl h1 (by omega) (at_mapX e29)) rfl rfl ?_
          rintro u350 _ ⟨rfl, p351⟩
          refine WL.get (dx_fldP 1 rfl ty_fld_38_1_1 rfl p351 (cs' := [.bool true]) rfl (Nat.succ_pos _)) rfl rfl ?_
          rintro u352 _ ⟨rfl, p353⟩
          refine WL.val (dx_loadP rfl ty_one_4 rfl p353) rfl rfl ?_
          refine WL.val (dx_not rfl rfl) rfl rfl ?_
          refine WL.nil ?_
          refine hK349 ?_
          refine WC.condF rfl ?_
          refine WC.skip ?_
          refine hK348 ?_
          refine WC.seq fun K354 hK354 => ?_
          refine WC.seq fun K355 hK355 => ?_
          refine WC.region ?_
          refine WL.val (dx_move rfl rfl) rfl rfl ?_
          refine WL.val (dx_move rfl rfl) rfl rfl ?_
          refine WL.get (dx_idxF st.i rfl ty_slice_34 rfl rfl h1 (by omega) (at_mapX e29)) rfl rfl ?_
          rintro u356 _ ⟨rfl, p357⟩
          refine WL.get (dx_fldP 1 rfl ty_fld_38_2_2 rfl p357 (cs' := [.bool false]) rfl (Nat.succ_pos _)) rfl rfl ?_
          rintro u358 _ ⟨rfl, p359⟩
          refine WL.val (dx_loadP rfl ty_one_4 rfl p359) rfl rfl ?_
          refine WL.val (dx_not rfl rfl) rfl rfl ?_
          refine WL.nil ?_
          refine hK355 ?_
          refine WC.condT rfl ?_
          refine WC.region ?_
          refine WL.val (dx_fld (o1 := 1) rfl ty_fld_26_1_1 rfl rfl) rfl rfl ?_
          refine WL.do (dx_store (cs' := [.int .i64 5, .string ({ data := #[121] }), .string ({ data := #[101, 109, 97, 105, 108] }), .string ({ data := #[97, 64, 98, 46, 99] }), .string ({ data := #[116] }), .int .i64 1, .int .i64 100, .int .i64 0, .bool false, .int .i64 0]) (vs := [.string ({ data := #[121] })]) rfl ty_size_9_1 rfl rfl rfl (oc_cons rfl oc_nil) k347 rfl (Nat.le_of_ble_eq_true rfl) rfl) rfl ?_
          rintro _ W360 ⟨k362, o361⟩
          clear k347
          replace h1 := h1.only o361 (.head _)
          replace hM := hM.only o361 (.head _)
          replace hlv := hlv.only o361 (.head _)
          replace hB := o361.below hB l344
          replace hL := LL.only hL o361
          refine WL.nil ?_
          refine hK354 ?_
          refine WC.seq fun K363 hK363 => ?_
          have hg0 := st_good (b := st.b) hk ht hb
          have hnn : 0 ≤ nw ∧ nw ≤ 1099511627776 := by omega
          obtain ⟨q1, q2⟩ := (st_sub (b := st.b) (w := (⟨5, { data := #[121] }, { data := #[101, 109, 97, 105, 108] }, { data := #[97, 64, 98, 46, 99] }, { data := #[116] }, 1, 100, 0, false, 0⟩ : SesX)) hg0 hnn rfl).1 (fun hc => absurd hc.1 (by decide))
          refine WC.region ?_
          refine WL.val (dx_move rfl rfl) rfl rfl ?_
          refine WL.val (dx_move rfl rfl) rfl rfl ?_
          refine WL.val (dx_loadN rfl ty_agg_26_10 rfl k362.range rfl) rfl rfl ?_
          refine WL.get (dx_cv rfl Tryd.func14 rfl rfl rfl ((show CV _ _ [_, _, _] _ (fun v W => ∃ s2, v = .tuple #[s2, .int .i64 11] ∧ RdF 10 (W339.heap.size :: L) W s2 ([stZ st.k st.b st.t].map encZ)) from by have := submit_v [stZ st.k st.b st.t] nw (⟨5, { data := #[121] }, { data := #[101, 109, 97, 105, 108] }, { data := #[97, 64, 98, 46, 99] }, { data := #[116] }, 1, 100, 0, false, 0⟩ : SesX) _ W360 (W339.heap.size :: L) hL hlv hM (sm_st _ _ _); rw [q1, q2] at this; exact this))) rfl rfl ?_
          rintro _ W367 ⟨⟨u364, rfl, j365⟩, b366⟩
          replace h1 := h1.below b366
          replace hM := hM.below b366
          replace hlv := hlv.below b366
          replace k362 := k362.below b366
          replace hB := below_then hB b366
          replace hL := LL.below hL b366
          refine WL.val (dx_move rfl rfl) rfl rfl ?_
          refine WL.val (dx_extract rfl rfl rfl) rfl rfl ?_
          refine WL.val (dx_extract rfl rfl rfl) rfl rfl ?_
          refine WL.val (dx_assign rfl rfl) rfl rfl ?_
          refine WL.val (dx_assign rfl rfl) rfl rfl ?_
          refine WL.nil ?_
          refine hK363 ?_
          refine WC.seq fun K368 hK368 => ?_
          refine WC.region ?_
          refine WL.val (dx_move rfl rfl) rfl rfl ?_
          refine WL.val (dx_assign rfl rfl) rfl rfl ?_
          refine WL.nil ?_
          refine hK368 ?_
          refine WC.seq fun K369 hK369 => ?_
          refine WC.region ?_
          refine WL.val (dx_assign rfl rfl) rfl rfl ?_
          refine WL.nil ?_
          refine hK369 ?_
          refine WC.seq fun K370 hK370 => ?_
          refine WC.block ?_
          refine WC.seq fun K371 hK371 => ?_
          refine WC.region ?_
          refine WL.val (dx_move rfl rfl) rfl rfl ?_
          refine WL.val (dx_gtr rfl rfl rfl) rfl rfl ?_
          refine WL.val (dx_move rfl rfl) rfl rfl ?_
          refine WL.split 69 rfl (fun g372 => ?_) (fun g372 => ?_)
          ·
            replace g372 := of_decide_eq_true g372
            refine WL.off rfl rfl rfl ?_
            refine WL.off rfl rfl rfl ?_
            refine WL.off rfl rfl rfl ?_
            refine WL.off rfl rfl rfl ?_
            refine WL.off rfl rfl rfl ?_
            refine WL.off rfl rfl rfl ?_
            refine WL.val (dx_pick rfl rfl rfl) rfl rfl ?_
            refine WL.val (dx_assign rfl rfl) rfl rfl ?_
            refine WL.nil ?_
            refine hK371 ?_
            refine WC.condT rfl ?_
            refine WC.region ?_
            refine WL.val (dx_assign rfl rfl) rfl rfl ?_
            refine WL.nil ?_
            refine hK370 ?_
            refine WC.seq fun K373 hK373 => ?_
            refine WC.seq fun K374 hK374 => ?_
            refine WC.region ?_
            refine WL.val (dx_move rfl rfl) rfl rfl ?_
            refine WL.val (dx_move rfl rfl) rfl rfl ?_
            refine WL.val (dx_neq rfl rfl rfl) rfl rfl ?_
            refine WL.nil ?_
            refine hK374 ?_
            refine WC.condF rfl ?_
            refine WC.skip ?_
            refine hK373 ?_
            refine WC.seq fun K375 hK375 => ?_
            have hk' : 0 ≤ st.k ∧ st.k ≤ 3 := by omega
            have ht' : 0 ≤ st.t ∧ st.t ≤ 1099511627776 := by first | omega | (split <;> omega)
            have hb' : st.b = false → st.t = 0 := hb
            have hg1 := st_good (b := st.b) hk' ht' hb'
            rcases Int.lt_or_le 86500 nw with hc | hc
            ·
              have q3 := (st_sh (b := st.b) hg1 hnn).2.2 hc
              refine WC.region ?_
              refine WL.val (dx_move rfl rfl) rfl rfl ?_
              refine WL.val (dx_move rfl rfl) rfl rfl ?_
              refine WL.get (dx_cv rfl Tryd.func13 rfl rfl rfl (ask_v W367 [] (LL.nil _))) rfl rfl ?_
              rintro _ W377 ⟨rfl, b376⟩
              replace h1 := h1.below b376
              replace hM := hM.below b376
              replace hlv := hlv.below b376
              replace j365 := j365.below b376
              replace k362 := k362.below b376
              replace hB := below_then hB b376
              replace hL := LL.below hL b376
              refine WL.get (dx_cv rfl Tryd.func15 rfl rfl rfl ((show CV _ _ [_, _, _] _ (fun v W => v = .tuple #[.agg #[.string ⟨#[]⟩, .string ⟨#[]⟩], .int .i64 11]) from by have := shown_v [stZ st.k st.b st.t] nw askZ _ W377 (W339.heap.size :: L) hL j365 hM (sm_st _ _ _); have q4 : shM [stZ st.k st.b st.t] nw askZ = ⟨#[]⟩ := (by unfold shM; rw [if_neg (by rw [q3]; decide)]); have q5 : shW [stZ st.k st.b st.t] nw askZ = ⟨#[]⟩ := (by unfold shW; rw [if_neg (by rw [q3]; decide)]); rw [q3, q4, q5] at this; exact this))) rfl rfl ?_
              rintro _ W379 ⟨rfl, b378⟩
              replace h1 := h1.below b378
              replace hM := hM.below b378
              replace hlv := hlv.below b378
              replace j365 := j365.below b378
              replace k362 := k362.below b378
              replace hB := below_then hB b378
              replace hL := LL.below hL b378
              refine WL.val (dx_move rfl rfl) rfl rfl ?_
              refine WL.val (dx_extract rfl rfl rfl) rfl rfl ?_
              refine WL.val (dx_extract rfl rfl rfl) rfl rfl ?_
              refine WL.get (dx_alloc rfl ty_zero_24 rfl) rfl rfl ?_
              rintro _ W380 ⟨rfl, k381, b382, z383⟩
              have n384 : W339.heap.size ≠ W379.heap.size := Nat.ne_of_lt k362.lt
              have l385 := hB.size
              replace h1 := h1.more b382 (Nat.le_refl _)
              replace hM := hM.more b382 (Nat.le_refl _)
              replace hlv := hlv.more b382 (Nat.le_refl _)
              replace j365 := j365.more b382 (Nat.le_refl _)
              replace k362 := k362.below b382
              replace hB := below_then hB b382
              replace hL := LL.more hL z383
              refine WL.do (dx_store (cs' := [.string ⟨#[]⟩, .string ⟨#[]⟩]) (vs := [.string ⟨#[]⟩, .string ⟨#[]⟩]) rfl ty_size_24_2 rfl rfl rfl (oc_cons rfl (oc_cons rfl oc_nil)) k381 rfl (Nat.le_of_ble_eq_true rfl) rfl) rfl ?_
              rintro _ W386 ⟨k388, o387⟩
              replace k362 := k362.other o387 n384
              clear k381
              replace h1 := h1.only o387 (.head _)
              replace hM := hM.only o387 (.head _)
              replace hlv := hlv.only o387 (.head _)
              replace j365 := j365.only o387 (.head _)
              replace hB := o387.below hB l385
              replace hL := LL.only hL o387
              refine WL.val (dx_assign rfl rfl) rfl rfl ?_
              refine WL.nil ?_
              refine hK375 ?_
              refine WC.seq fun K389 hK389 => ?_
              refine WC.region ?_
              refine WL.val (dx_move rfl rfl) rfl rfl ?_
              refine WL.val (dx_eql rfl rfl rfl) rfl rfl ?_
              refine WL.val (dx_move rfl rfl) rfl rfl ?_
              refine WL.val (dx_move rfl rfl) rfl rfl ?_
              refine WL.split 102 rfl (fun g390 => ?_) (fun g390 => ?_)
              ·
                refine WL.val (dx_move rfl rfl) rfl rfl ?_
                refine WL.val (dv_N (dx_leq rfl rfl rfl) (by omega)) rfl rfl ?_
                refine WL.val (dx_pick rfl rfl rfl) rfl rfl ?_
                refine WL.val (dv_Fz (dx_neqB rfl Tryd.underlying4 rfl rfl) (by decide)) rfl rfl ?_
                refine WL.nil ?_
                refine hK389 ?_
                refine WC.condF rfl ?_
                refine WC.skip ?_
                refine hK26 ?_
                refine WC.region ?_
                refine WL.val (dx_move rfl rfl) rfl rfl ?_
                refine WL.val (dx_add (r := (st.i : Int) + 1) rfl rfl rfl (wrap64_id (by omega))) rfl rfl ?_
                refine WL.val (dx_assign rfl rfl) rfl rfl ?_
                refine WL.nil ?_
                replace hL := hL.less (fun x hx => (.tail _ (.tail _ hx)))
                replace h1 := h1.less (fun x hx => (.tail _ (.tail _ hx)))
                replace hM := hM.less (fun x hx => (.tail _ (.tail _ hx)))
                replace j365 := j365.less (fun x hx => (.tail _ (.tail _ hx)))
                exact hK21 ⟨st.i + 1, u364, nw, st.k, st.b, st.t⟩ ⟨(by show st.i + 1 ≤ acts.length; omega), hk', (by show 100 ≤ nw ∧ nw ≤ 100 + ((st.i + 1 : Nat) : Int) * 65535; omega), ht', hb', hB, hL, h1, hM, j365⟩ (by show acts.length - (st.i + 1) < acts.length - st.i; omega) (by repeat first | exact trivial | exact And.intro rfl trivial | refine And.intro rfl ?_ | refine And.intro (congrArg (fun z : Int => some (Value.int .i64 z)) (by omega)) ?_)
              ·
                refine WL.off rfl rfl rfl ?_
                refine WL.off rfl rfl rfl ?_
                refine WL.val (dx_pick rfl rfl rfl) rfl rfl ?_
                refine WL.val (dv_Fz (dx_neqB rfl Tryd.underlying4 rfl rfl) (by decide)) rfl rfl ?_
                refine WL.nil ?_
                refine hK389 ?_
                refine WC.condF rfl ?_
                refine WC.skip ?_
                refine hK26 ?_
                refine WC.region ?_
                refine WL.val (dx_move rfl rfl) rfl rfl ?_
                refine WL.val (dx_add (r := (st.i : Int) + 1) rfl rfl rfl (wrap64_id (by omega))) rfl rfl ?_
                refine WL.val (dx_assign rfl rfl) rfl rfl ?_
                refine WL.nil ?_
                replace hL := hL.less (fun x hx => (.tail _ (.tail _ hx)))
                replace h1 := h1.less (fun x hx => (.tail _ (.tail _ hx)))
                replace hM := hM.less (fun x hx => (.tail _ (.tail _ hx)))
                replace j365 := j365.less (fun x hx => (.tail _ (.tail _ hx)))
                exact hK21 ⟨st.i + 1, u364, nw, st.k, st.b, st.t⟩ ⟨(by show st.i + 1 ≤ acts.length; omega), hk', (by show 100 ≤ nw ∧ nw ≤ 100 + ((st.i + 1 : Nat) : Int) * 65535; omega), ht', hb', hB, hL, h1, hM, j365⟩ (by show acts.length - (st.i + 1) < acts.length - st.i; omega) (by repeat first | exact trivial | exact And.intro rfl trivial | refine And.intro rfl ?_ | refine And.intro (congrArg (fun z : Int => some (Value.int .i64 z)) (by omega)) ?_)
            ·
              rcases (show st.b = false ∨ st.b = true by cases st.b <;> simp) with hbb | hbb
              ·
                have q3 := (st_sh (b := st.b) hg1 hnn).2.1 hc hbb
                refine WC.region ?_
                refine WL.val (dx_move rfl rfl) rfl rfl ?_
                refine WL.val (dx_move rfl rfl) rfl rfl ?_
                refine WL.get (dx_cv rfl Tryd.func13 rfl rfl rfl (ask_v W367 [] (LL.nil _))) rfl rfl ?_
                rintro _ W392 ⟨rfl, b391⟩
                replace h1 := h1.below b391
                replace hM := hM.below b391
                replace hlv := hlv.below b391
                replace j365 := j365.below b391
                replace k362 := k362.below b391
                replace hB := below_then hB b391
                replace hL := LL.below hL b391
                refine WL.get (dx_cv rfl Tryd.func15 rfl rfl rfl ((show CV _ _ [_, _, _] _ (fun v W => v = .tuple #[.agg #[.string ⟨#[]⟩, .string ⟨#[]⟩], .int .i64 14]) from by have := shown_v [stZ st.k st.b st.t] nw askZ _ W392 (W339.heap.size :: L) hL j365 hM (sm_st _ _ _); have q4 : shM [stZ st.k st.b st.t] nw askZ = ⟨#[]⟩ := (by unfold shM; rw [if_neg (by rw [q3]; decide)]); have q5 : shW [stZ st.k st.b st.t] nw askZ = ⟨#[]⟩ := (by unfold shW; rw [if_neg (by rw [q3]; decide)]); rw [q3, q4, q5] at this; exact this))) rfl rfl ?_
                rintro _ W394 ⟨rfl, b393⟩
                replace h1 := h1.below b393
                replace hM := hM.below b393
                replace hlv := hlv.below b393
                replace j365 := j365.below b393
                replace k362 := k362.below b393
                replace hB := below_then hB b393
                replace hL := LL.below hL b393
                refine WL.val (dx_move rfl rfl) rfl rfl ?_
                refine WL.val (dx_extract rfl rfl rfl) rfl rfl ?_
                refine WL.val (dx_extract rfl rfl rfl) rfl rfl ?_
                refine WL.get (dx_alloc rfl ty_zero_24 rfl) rfl rfl ?_
                rintro _ W395 ⟨rfl, k396, b397, z398⟩
                have n399 : W339.heap.size ≠ W394.heap.size := Nat.ne_of_lt k362.lt
                have l400 := hB.size
                replace h1 := h1.more b397 (Nat.le_refl _)
                replace hM := hM.more b397 (Nat.le_refl _)
                replace hlv := hlv.more b397 (Nat.le_refl _)
                replace j365 := j365.more b397 (Nat.le_refl _)
                replace k362 := k362.below b397
                replace hB := below_then hB b397
                replace hL := LL.more hL z398
                refine WL.do (dx_store (cs' := [.string ⟨#[]⟩, .string ⟨#[]⟩]) (vs := [.string ⟨#[]⟩, .string ⟨#[]⟩]) rfl ty_size_24_2 rfl rfl rfl (oc_cons rfl (oc_cons rfl oc_nil)) k396 rfl (Nat.le_of_ble_eq_true rfl) rfl) rfl ?_
                rintro _ W401 ⟨k403, o402⟩
                replace k362 := k362.other o402 n399
                clear k396
                replace h1 := h1.only o402 (.head _)
                replace hM := hM.only o402 (.head _)
                replace hlv := hlv.only o402 (.head _)
                replace j365 := j365.only o402 (.head _)
                replace hB := o402.below hB l400
                replace hL := LL.only hL o402
                refine WL.val (dx_assign rfl rfl) rfl rfl ?_
                refine WL.nil ?_
                refine hK375 ?_
                refine WC.seq fun K404 hK404 => ?_
                refine WC.region ?_
                refine WL.val (dx_move rfl rfl) rfl rfl ?_
                refine WL.val (dx_eql rfl rfl rfl) rfl rfl ?_
                refine WL.val (dx_move rfl rfl) rfl rfl ?_
                refine WL.val (dx_move rfl rfl) rfl rfl ?_
                refine WL.split 102 rfl (fun g405 => ?_) (fun g405 => ?_)
                ·
                  exact absurd (g405.symm.trans hbb) (by decide)
                ·
                  refine WL.off rfl rfl rfl ?_
                  refine WL.off rfl rfl rfl ?_
                  refine WL.val (dx_pick rfl rfl rfl) rfl rfl ?_
                  refine WL.val (dv_Fz (dx_neqB rfl Tryd.underlying4 rfl rfl) (by decide)) rfl rfl ?_
                  refine WL.nil ?_
                  refine hK404 ?_
                  refine WC.condF rfl ?_
                  refine WC.skip ?_
                  refine hK26 ?_
                  refine WC.region ?_
                  refine WL.val (dx_move rfl rfl) rfl rfl ?_
                  refine WL.val (dx_add (r := (st.i : Int) + 1) rfl rfl rfl (wrap64_id (by omega))) rfl rfl ?_
                  refine WL.val (dx_assign rfl rfl) rfl rfl ?_
                  refine WL.nil ?_
                  replace hL := hL.less (fun x hx => (.tail _ (.tail _ hx)))
                  replace h1 := h1.less (fun x hx => (.tail _ (.tail _ hx)))
                  replace hM := hM.less (fun x hx => (.tail _ (.tail _ hx)))
                  replace j365 := j365.less (fun x hx => (.tail _ (.tail _ hx)))
                  exact hK21 ⟨st.i + 1, u364, nw, st.k, st.b, st.t⟩ ⟨(by show st.i + 1 ≤ acts.length; omega), hk', (by show 100 ≤ nw ∧ nw ≤ 100 + ((st.i + 1 : Nat) : Int) * 65535; omega), ht', hb', hB, hL, h1, hM, j365⟩ (by show acts.length - (st.i + 1) < acts.length - st.i; omega) (by repeat first | exact trivial | exact And.intro rfl trivial | refine And.intro rfl ?_ | refine And.intro (congrArg (fun z : Int => some (Value.int .i64 z)) (by omega)) ?_)
              ·
                obtain ⟨q3, q4, q5⟩ := (st_sh (b := st.b) hg1 hnn).1 hc hbb
                refine WC.region ?_
                refine WL.val (dx_move rfl rfl) rfl rfl ?_
                refine WL.val (dx_move rfl rfl) rfl rfl ?_
                refine WL.get (dx_cv rfl Tryd.func13 rfl rfl rfl (ask_v W367 [] (LL.nil _))) rfl rfl ?_
                rintro _ W407 ⟨rfl, b406⟩
                replace h1 := h1.below b406
                replace hM := hM.below b406
                replace hlv := hlv.below b406
                replace j365 := j365.below b406
                replace k362 := k362.below b406
                replace hB := below_then hB b406
                replace hL := LL.below hL b406
                refine WL.get (dx_cv rfl Tryd.func15 rfl rfl rfl ((show CV _ _ [_, _, _] _ (fun v W => v = .tuple #[.agg #[.string { data := #[101, 109, 97, 105, 108] }, .string { data := #[97, 64, 98, 46, 99] }], .int .i64 0]) from by have := shown_v [stZ st.k st.b st.t] nw askZ _ W407 (W339.heap.size :: L) hL j365 hM (sm_st _ _ _); rw [q3, q4, q5] at this; exact this))) rfl rfl ?_
                rintro _ W409 ⟨rfl, b408⟩
                replace h1 := h1.below b408
                replace hM := hM.below b408
                replace hlv := hlv.below b408
                replace j365 := j365.below b408
                replace k362 := k362.below b408
                replace hB := below_then hB b408
                replace hL := LL.below hL b408
                refine WL.val (dx_move rfl rfl) rfl rfl ?_
                refine WL.val (dx_extract rfl rfl rfl) rfl rfl ?_
                refine WL.val (dx_extract rfl rfl rfl) rfl rfl ?_
                refine WL.get (dx_alloc rfl ty_zero_24 rfl) rfl rfl ?_
                rintro _ W410 ⟨rfl, k411, b412, z413⟩
                have n414 : W339.heap.size ≠ W409.heap.size := Nat.ne_of_lt k362.lt
                have l415 := hB.size
                replace h1 := h1.more b412 (Nat.le_refl _)
                replace hM := hM.more b412 (Nat.le_refl _)
                replace hlv := hlv.more b412 (Nat.le_refl _)
                replace j365 := j365.more b412 (Nat.le_refl _)
                replace k362 := k362.below b412
                replace hB := below_then hB b412
                replace hL := LL.more hL z413
                refine WL.do (dx_store (cs' := [.string ({ data := #[101, 109, 97, 105, 108] }), .string ({ data := #[97, 64, 98, 46, 99] })]) (vs := [.string ({ data := #[101, 109, 97, 105, 108] }), .string ({ data := #[97, 64, 98, 46, 99] })]) rfl ty_size_24_2 rfl rfl rfl (oc_cons rfl (oc_cons rfl oc_nil)) k411 rfl (Nat.le_of_ble_eq_true rfl) rfl) rfl ?_
                rintro _ W416 ⟨k418, o417⟩
                replace k362 := k362.other o417 n414
                clear k411
                replace h1 := h1.only o417 (.head _)
                replace hM := hM.only o417 (.head _)
                replace hlv := hlv.only o417 (.head _)
                replace j365 := j365.only o417 (.head _)
                replace hB := o417.below hB l415
                replace hL := LL.only hL o417
                refine WL.val (dx_assign rfl rfl) rfl rfl ?_
                refine WL.nil ?_
                refine hK375 ?_
                refine WC.seq fun K419 hK419 => ?_
                refine WC.region ?_
                refine WL.val (dx_move rfl rfl) rfl rfl ?_
                refine WL.val (dx_eql rfl rfl rfl) rfl rfl ?_
                refine WL.val (dx_move rfl rfl) rfl rfl ?_
                refine WL.val (dx_move rfl rfl) rfl rfl ?_
                refine WL.split 102 rfl (fun g420 => ?_) (fun g420 => ?_)
                ·
                  refine WL.val (dx_move rfl rfl) rfl rfl ?_
                  refine WL.val (dv_T (dx_leq rfl rfl rfl) (by omega)) rfl rfl ?_
                  refine WL.val (dx_pick rfl rfl rfl) rfl rfl ?_
                  refine WL.val (dv_Fz (dx_neqB rfl Tryd.underlying4 rfl rfl) (by decide)) rfl rfl ?_
                  refine WL.nil ?_
                  refine hK419 ?_
                  refine WC.condF rfl ?_
                  refine WC.skip ?_
                  refine hK26 ?_
                  refine WC.region ?_
                  refine WL.val (dx_move rfl rfl) rfl rfl ?_
                  refine WL.val (dx_add (r := (st.i : Int) + 1) rfl rfl rfl (wrap64_id (by omega))) rfl rfl ?_
                  refine WL.val (dx_assign rfl rfl) rfl rfl ?_
                  refine WL.nil ?_
                  replace hL := hL.less (fun x hx => (.tail _ (.tail _ hx)))
                  replace h1 := h1.less (fun x hx => (.tail _ (.tail _ hx)))
                  replace hM := hM.less (fun x hx => (.tail _ (.tail _ hx)))
                  replace j365 := j365.less (fun x hx => (.tail _ (.tail _ hx)))
                  exact hK21 ⟨st.i + 1, u364, nw, st.k, st.b, st.t⟩ ⟨(by show st.i + 1 ≤ acts.length; omega), hk', (by show 100 ≤ nw ∧ nw ≤ 100 + ((st.i + 1 : Nat) : Int) * 65535; omega), ht', hb', hB, hL, h1, hM, j365⟩ (by show acts.length - (st.i + 1) < acts.length - st.i; omega) (by repeat first | exact trivial | exact And.intro rfl trivial | refine And.intro rfl ?_ | refine And.intro (congrArg (fun z : Int => some (Value.int .i64 z)) (by omega)) ?_)
                ·
                  exact absurd (g420.symm.trans hbb) (by decide)
          ·
            replace g372 := of_decide_eq_false g372
            refine WL.val (dx_move rfl rfl) rfl rfl ?_
            refine WL.val (dx_move rfl rfl) rfl rfl ?_
            refine WL.get (dx_idxF st.i rfl ty_slice_34 rfl rfl h1 (by omega) (at_mapX e29)) rfl rfl ?_
            rintro u421 _ ⟨rfl, p422⟩
            refine WL.get (dx_fldP 1 rfl ty_fld_38_2_2 rfl p422 (cs' := [.bool false]) rfl (Nat.succ_pos _)) rfl rfl ?_
            rintro u423 _ ⟨rfl, p424⟩
            refine WL.val (dx_loadP rfl ty_one_4 rfl p424) rfl rfl ?_
            refine WL.val (dx_not rfl rfl) rfl rfl ?_
            refine WL.val (dx_pick rfl rfl rfl) rfl rfl ?_
            refine WL.val (dx_assign rfl rfl) rfl rfl ?_
            refine WL.nil ?_
            refine hK371 ?_
            refine WC.condT rfl ?_
            refine WC.region ?_
            refine WL.val (dx_assign rfl rfl) rfl rfl ?_
            refine WL.nil ?_
            refine hK370 ?_
            refine WC.seq fun K425 hK425 => ?_
            refine WC.seq fun K426 hK426 => ?_
            refine WC.region ?_
            refine WL.val (dx_move rfl rfl) rfl rfl ?_
            refine WL.val (dx_move rfl rfl) rfl rfl ?_
            refine WL.val (dx_neq rfl rfl rfl) rfl rfl ?_
            refine WL.nil ?_
            refine hK426 ?_
            refine WC.condF rfl ?_
            refine WC.skip ?_
            refine hK425 ?_
            refine WC.seq fun K427 hK427 => ?_
            have hk' : 0 ≤ st.k ∧ st.k ≤ 3 := by omega
            have ht' : 0 ≤ st.t ∧ st.t ≤ 1099511627776 := by first | omega | (split <;> omega)
            have hb' : st.b = false → st.t = 0 := hb
            have hg1 := st_good (b := st.b) hk' ht' hb'
            rcases Int.lt_or_le 86500 nw with hc | hc
            ·
              have q3 := (st_sh (b := st.b) hg1 hnn).2.2 hc
              refine WC.region ?_
              refine WL.val (dx_move rfl rfl) rfl rfl ?_
              refine WL.val (dx_move rfl rfl) rfl rfl ?_
              refine WL.get (dx_cv rfl Tryd.func13 rfl rfl rfl (ask_v W367 [] (LL.nil _))) rfl rfl ?_
              rintro _ W429 ⟨rfl, b428⟩
              replace h1 := h1.below b428
              replace hM := hM.below b428
              replace hlv := hlv.below b428
              replace j365 := j365.below b428
              replace k362 := k362.below b428
              replace hB := below_then hB b428
              replace hL := LL.below hL b428
              refine WL.get (dx_cv rfl Tryd.func15 rfl rfl rfl ((show CV _ _ [_, _, _] _ (fun v W => v = .tuple #[.agg #[.string ⟨#[]⟩, .string ⟨#[]⟩], .int .i64 11]) from by have := shown_v [stZ st.k st.b st.t] nw askZ _ W429 (W339.heap.size :: L) hL j365 hM (sm_st _ _ _); have q4 : shM [stZ st.k st.b st.t] nw askZ = ⟨#[]⟩ := (by unfold shM; rw [if_neg (by rw [q3]; decide)]); have q5 : shW [stZ st.k st.b st.t] nw askZ = ⟨#[]⟩ := (by unfold shW; rw [if_neg (by rw [q3]; decide)]); rw [q3, q4, q5] at this; exact this))) rfl rfl ?_
              rintro _ W431 ⟨rfl, b430⟩
              replace h1 := h1.below b430
              replace hM := hM.below b430
              replace hlv := hlv.below b430
              replace j365 := j365.below b430
              replace k362 := k362.below b430
              replace hB := below_then hB b430
              replace hL := LL.below hL b430
              refine WL.val (dx_move rfl rfl) rfl rfl ?_
              refine WL.val (dx_extract rfl rfl rfl) rfl rfl ?_
              refine WL.val (dx_extract rfl rfl rfl) rfl rfl ?_
              refine WL.get (dx_alloc rfl ty_zero_24 rfl) rfl rfl ?_
              rintro _ W432 ⟨rfl, k433, b434, z435⟩
              have n436 : W339.heap.size ≠ W431.heap.size := Nat.ne_of_lt k362.lt
              have l437 := hB.size
              replace h1 := h1.more b434 (Nat.le_refl _)
              replace hM := hM.more b434 (Nat.le_refl _)
              replace hlv := hlv.more b434 (Nat.le_refl _)
              replace j365 := j365.more b434 (Nat.le_refl _)
              replace k362 := k362.below b434
              replace hB := below_then hB b434
              replace hL := LL.more hL z435
              refine WL.do (dx_store (cs' := [.string ⟨#[]⟩, .string ⟨#[]⟩]) (vs := [.string ⟨#[]⟩, .string ⟨#[]⟩]) rfl ty_size_24_2 rfl rfl rfl (oc_cons rfl (oc_cons rfl oc_nil)) k433 rfl (Nat.le_of_ble_eq_true rfl) rfl) rfl ?_
              rintro _ W438 ⟨k440, o439⟩
              replace k362 := k362.other o439 n436
              clear k433
              replace h1 := h1.only o439 (.head _)
              replace hM := hM.only o439 (.head _)
              replace hlv := hlv.only o439 (.head _)
              replace j365 := j365.only o439 (.head _)
              replace hB := o439.below hB l437
              replace hL := LL.only hL o439
              refine WL.val (dx_assign rfl rfl) rfl rfl ?_
              refine WL.nil ?_
              refine hK427 ?_
              refine WC.seq fun K441 hK441 => ?_
              refine WC.region ?_
              refine WL.val (dx_move rfl rfl) rfl rfl ?_
              refine WL.val (dx_eql rfl rfl rfl) rfl rfl ?_
              refine WL.val (dx_move rfl rfl) rfl rfl ?_
              refine WL.val (dx_move rfl rfl) rfl rfl ?_
              refine WL.split 102 rfl (fun g442 => ?_) (fun g442 => ?_)
              ·
                refine WL.val (dx_move rfl rfl) rfl rfl ?_
                refine WL.val (dv_N (dx_leq rfl rfl rfl) (by omega)) rfl rfl ?_
                refine WL.val (dx_pick rfl rfl rfl) rfl rfl ?_
                refine WL.val (dv_Fz (dx_neqB rfl Tryd.underlying4 rfl rfl) (by decide)) rfl rfl ?_
                refine WL.nil ?_
                refine hK441 ?_
                refine WC.condF rfl ?_
                refine WC.skip ?_
                refine hK26 ?_
                refine WC.region ?_
                refine WL.val (dx_move rfl rfl) rfl rfl ?_
                refine WL.val (dx_add (r := (st.i : Int) + 1) rfl rfl rfl (wrap64_id (by omega))) rfl rfl ?_
                refine WL.val (dx_assign rfl rfl) rfl rfl ?_
                refine WL.nil ?_
                replace hL := hL.less (fun x hx => (.tail _ (.tail _ hx)))
                replace h1 := h1.less (fun x hx => (.tail _ (.tail _ hx)))
                replace hM := hM.less (fun x hx => (.tail _ (.tail _ hx)))
                replace j365 := j365.less (fun x hx => (.tail _ (.tail _ hx)))
                exact hK21 ⟨st.i + 1, u364, nw, st.k, st.b, st.t⟩ ⟨(by show st.i + 1 ≤ acts.length; omega), hk', (by show 100 ≤ nw ∧ nw ≤ 100 + ((st.i + 1 : Nat) : Int) * 65535; omega), ht', hb', hB, hL, h1, hM, j365⟩ (by show acts.length - (st.i + 1) < acts.length - st.i; omega) (by repeat first | exact trivial | exact And.intro rfl trivial | refine And.intro rfl ?_ | refine And.intro (congrArg (fun z : Int => some (Value.int .i64 z)) (by omega)) ?_)
              ·
                refine WL.off rfl rfl rfl ?_
                refine WL.off rfl rfl rfl ?_
                refine WL.val (dx_pick rfl rfl rfl) rfl rfl ?_
                refine WL.val (dv_Fz (dx_neqB rfl Tryd.underlying4 rfl rfl) (by decide)) rfl rfl ?_
                refine WL.nil ?_
                refine hK441 ?_
                refine WC.condF rfl ?_
                refine WC.skip ?_
                refine hK26 ?_
                refine WC.region ?_
                refine WL.val (dx_move rfl rfl) rfl rfl ?_
                refine WL.val (dx_add (r := (st.i : Int) + 1) rfl rfl rfl (wrap64_id (by omega))) rfl rfl ?_
                refine WL.val (dx_assign rfl rfl) rfl rfl ?_
                refine WL.nil ?_
                replace hL := hL.less (fun x hx => (.tail _ (.tail _ hx)))
                replace h1 := h1.less (fun x hx => (.tail _ (.tail _ hx)))
                replace hM := hM.less (fun x hx => (.tail _ (.tail _ hx)))
                replace j365 := j365.less (fun x hx => (.tail _ (.tail _ hx)))
                exact hK21 ⟨st.i + 1, u364, nw, st.k, st.b, st.t⟩ ⟨(by show st.i + 1 ≤ acts.length; omega), hk', (by show 100 ≤ nw ∧ nw ≤ 100 + ((st.i + 1 : Nat) : Int) * 65535; omega), ht', hb', hB, hL, h1, hM, j365⟩ (by show acts.length - (st.i + 1) < acts.length - st.i; omega) (by repeat first | exact trivial | exact And.intro rfl trivial | refine And.intro rfl ?_ | refine And.intro (congrArg (fun z : Int => some (Value.int .i64 z)) (by omega)) ?_)
            ·
              rcases (show st.b = false ∨ st.b = true by cases st.b <;> simp) with hbb | hbb
              ·
                have q3 := (st_sh (b := st.b) hg1 hnn).2.1 hc hbb
                refine WC.region ?_
                refine WL.val (dx_move rfl rfl) rfl rfl ?_
                refine WL.val (dx_move rfl rfl) rfl rfl ?_
                refine WL.get (dx_cv rfl Tryd.func13 rfl rfl rfl (ask_v W367 [] (LL.nil _))) rfl rfl ?_
                rintro _ W444 ⟨rfl, b443⟩
                replace h1 := h1.below b443
                replace hM := hM.below b443
                replace hlv := hlv.below b443
                replace j365 := j365.below b443
                replace k362 := k362.below b443
                replace hB := below_then hB b443
                replace hL := LL.below hL b443
                refine WL.get (dx_cv rfl Tryd.func15 rfl rfl rfl ((show CV _ _ [_, _, _] _ (fun v W => v = .tuple #[.agg #[.string ⟨#[]⟩, .string ⟨#[]⟩], .int .i64 14]) from by have := shown_v [stZ st.k st.b st.t] nw askZ _ W444 (W339.heap.size :: L) hL j365 hM (sm_st _ _ _); have q4 : shM [stZ st.k st.b st.t] nw askZ = ⟨#[]⟩ := (by unfold shM; rw [if_neg (by rw [q3]; decide)]); have q5 : shW [stZ st.k st.b st.t] nw askZ = ⟨#[]⟩ := (by unfold shW; rw [if_neg (by rw [q3]; decide)]); rw [q3, q4, q5] at this; exact this))) rfl rfl ?_
                rintro _ W446 ⟨rfl, b445⟩
                replace h1 := h1.below b445
                replace hM := hM.below b445
                replace hlv := hlv.below b445
                replace j365 := j365.below b445
                replace k362 := k362.below b445
                replace hB := below_then hB b445
                replace hL := LL.below hL b445
                refine WL.val (dx_move rfl rfl) rfl rfl ?_
                refine WL.val (dx_extract rfl rfl rfl) rfl rfl ?_
                refine WL.val (dx_extract rfl rfl rfl) rfl rfl ?_
                refine WL.get (dx_alloc rfl ty_zero_24 rfl) rfl rfl ?_
                rintro _ W447 ⟨rfl, k448, b449, z450⟩
                have n451 : W339.heap.size ≠ W446.heap.size := Nat.ne_of_lt k362.lt
                have l452 := hB.size
                replace h1 := h1.more b449 (Nat.le_refl _)
                replace hM := hM.more b449 (Nat.le_refl _)
                replace hlv := hlv.more b449 (Nat.le_refl _)
                replace j365 := j365.more b449 (Nat.le_refl _)
                replace k362 := k362.below b449
                replace hB := below_then hB b449
                replace hL := LL.more hL z450
                refine WL.do (dx_store (cs' := [.string ⟨#[]⟩, .string ⟨#[]⟩]) (vs := [.string ⟨#[]⟩, .string ⟨#[]⟩]) rfl ty_size_24_2 rfl rfl rfl (oc_cons rfl (oc_cons rfl oc_nil)) k448 rfl (Nat.le_of_ble_eq_true rfl) rfl) rfl ?_
                rintro _ W453 ⟨k455, o454⟩
                replace k362 := k362.other o454 n451
                clear k448
                replace h1 := h1.only o454 (.head _)
                replace hM := hM.only o454 (.head _)
                replace hlv := hlv.only o454 (.head _)
                replace j365 := j365.only o454 (.head _)
                replace hB := o454.below hB l452
                replace hL := LL.only hL o454
                refine WL.val (dx_assign rfl rfl) rfl rfl ?_
                refine WL.nil ?_
                refine hK427 ?_
                refine WC.seq fun K456 hK456 => ?_
                refine WC.region ?_
                refine WL.val (dx_move rfl rfl) rfl rfl ?_
                refine WL.val (dx_eql rfl rfl rfl) rfl rfl ?_
                refine WL.val (dx_move rfl rfl) rfl rfl ?_
                refine WL.val (dx_move rfl rfl) rfl rfl ?_
                refine WL.split 102 rfl (fun g457 => ?_) (fun g457 => ?_)
                ·
                  exact absurd (g457.symm.trans hbb) (by decide)
                ·
                  refine WL.off rfl rfl rfl ?_
                  refine WL.off rfl rfl rfl ?_
                  refine WL.val (dx_pick rfl rfl rfl) rfl rfl ?_
                  refine WL.val (dv_Fz (dx_neqB rfl Tryd.underlying4 rfl rfl) (by decide)) rfl rfl ?_
                  refine WL.nil ?_
                  refine hK456 ?_
                  refine WC.condF rfl ?_
                  refine WC.skip ?_
                  refine hK26 ?_
                  refine WC.region ?_
                  refine WL.val (dx_move rfl rfl) rfl rfl ?_
                  refine WL.val (dx_add (r := (st.i : Int) + 1) rfl rfl rfl (wrap64_id (by omega))) rfl rfl ?_
                  refine WL.val (dx_assign rfl rfl) rfl rfl ?_
                  refine WL.nil ?_
                  replace hL := hL.less (fun x hx => (.tail _ (.tail _ hx)))
                  replace h1 := h1.less (fun x hx => (.tail _ (.tail _ hx)))
                  replace hM := hM.less (fun x hx => (.tail _ (.tail _ hx)))
                  replace j365 := j365.less (fun x hx => (.tail _ (.tail _ hx)))
                  exact hK21 ⟨st.i + 1, u364, nw, st.k, st.b, st.t⟩ ⟨(by show st.i + 1 ≤ acts.length; omega), hk', (by show 100 ≤ nw ∧ nw ≤ 100 + ((st.i + 1 : Nat) : Int) * 65535; omega), ht', hb', hB, hL, h1, hM, j365⟩ (by show acts.length - (st.i + 1) < acts.length - st.i; omega) (by repeat first | exact trivial | exact And.intro rfl trivial | refine And.intro rfl ?_ | refine And.intro (congrArg (fun z : Int => some (Value.int .i64 z)) (by omega)) ?_)
              ·
                obtain ⟨q3, q4, q5⟩ := (st_sh (b := st.b) hg1 hnn).1 hc hbb
                refine WC.region ?_
                refine WL.val (dx_move rfl rfl) rfl rfl ?_
                refine WL.val (dx_move rfl rfl) rfl rfl ?_
                refine WL.get (dx_cv rfl Tryd.func13 rfl rfl rfl (ask_v W367 [] (LL.nil _))) rfl rfl ?_
                rintro _ W459 ⟨rfl, b458⟩
                replace h1 := h1.below b458
                replace hM := hM.below b458
                replace hlv := hlv.below b458
                replace j365 := j365.below b458
                replace k362 := k362.below b458
                replace hB := below_then hB b458
                replace hL := LL.below hL b458
                refine WL.get (dx_cv rfl Tryd.func15 rfl rfl rfl ((show CV _ _ [_, _, _] _ (fun v W => v = .tuple #[.agg #[.string { data := #[101, 109, 97, 105, 108] }, .string { data := #[97, 64, 98, 46, 99] }], .int .i64 0]) from by have := shown_v [stZ st.k st.b st.t] nw askZ _ W459 (W339.heap.size :: L) hL j365 hM (sm_st _ _ _); rw [q3, q4, q5] at this; exact this))) rfl rfl ?_
                rintro _ W461 ⟨rfl, b460⟩
                replace h1 := h1.below b460
                replace hM := hM.below b460
                replace hlv := hlv.below b460
                replace j365 := j365.below b460
                replace k362 := k362.below b460
                replace hB := below_then hB b460
                replace hL := LL.below hL b460
                refine WL.val (dx_move rfl rfl) rfl rfl ?_
                refine WL.val (dx_extract rfl rfl rfl) rfl rfl ?_
                refine WL.val (dx_extract rfl rfl rfl) rfl rfl ?_
                refine WL.get (dx_alloc rfl ty_zero_24 rfl) rfl rfl ?_
                rintro _ W462 ⟨rfl, k463, b464, z465⟩
                have n466 : W339.heap.size ≠ W461.heap.size := Nat.ne_of_lt k362.lt
                have l467 := hB.size
                replace h1 := h1.more b464 (Nat.le_refl _)
                replace hM := hM.more b464 (Nat.le_refl _)
                replace hlv := hlv.more b464 (Nat.le_refl _)
                replace j365 := j365.more b464 (Nat.le_refl _)
                replace k362 := k362.below b464
                replace hB := below_then hB b464
                replace hL := LL.more hL z465
                refine WL.do (dx_store (cs' := [.string ({ data := #[101, 109, 97, 105, 108] }), .string ({ data := #[97, 64, 98, 46, 99] })]) (vs := [.string ({ data := #[101, 109, 97, 105, 108] }), .string ({ data := #[97, 64, 98, 46, 99] })]) rfl ty_size_24_2 rfl rfl rfl (oc_cons rfl (oc_cons rfl oc_nil)) k463 rfl (Nat.le_of_ble_eq_true rfl) rfl) rfl ?_
                rintro _ W468 ⟨k470, o469⟩
                replace k362 := k362.other o469 n466
                clear k463
                replace h1 := h1.only o469 (.head _)
                replace hM := hM.only o469 (.head _)
                replace hlv := hlv.only o469 (.head _)
                replace j365 := j365.only o469 (.head _)
                replace hB := o469.below hB l467
                replace hL := LL.only hL o469
                refine WL.val (dx_assign rfl rfl) rfl rfl ?_
                refine WL.nil ?_
                refine hK427 ?_
                refine WC.seq fun K471 hK471 => ?_
                refine WC.region ?_
                refine WL.val (dx_move rfl rfl) rfl rfl ?_
                refine WL.val (dx_eql rfl rfl rfl) rfl rfl ?_
                refine WL.val (dx_move rfl rfl) rfl rfl ?_
                refine WL.val (dx_move rfl rfl) rfl rfl ?_
                refine WL.split 102 rfl (fun g472 => ?_) (fun g472 => ?_)
                ·
                  refine WL.val (dx_move rfl rfl) rfl rfl ?_
                  refine WL.val (dv_T (dx_leq rfl rfl rfl) (by omega)) rfl rfl ?_
                  refine WL.val (dx_pick rfl rfl rfl) rfl rfl ?_
                  refine WL.val (dv_Fz (dx_neqB rfl Tryd.underlying4 rfl rfl) (by decide)) rfl rfl ?_
                  refine WL.nil ?_
                  refine hK471 ?_
                  refine WC.condF rfl ?_
                  refine WC.skip ?_
                  refine hK26 ?_
                  refine WC.region ?_
                  refine WL.val (dx_move rfl rfl) rfl rfl ?_
                  refine WL.val (dx_add (r := (st.i : Int) + 1) rfl rfl rfl (wrap64_id (by omega))) rfl rfl ?_
                  refine WL.val (dx_assign rfl rfl) rfl rfl ?_
                  refine WL.nil ?_
                  replace hL := hL.less (fun x hx => (.tail _ (.tail _ hx)))
                  replace h1 := h1.less (fun x hx => (.tail _ (.tail _ hx)))
                  replace hM := hM.less (fun x hx => (.tail _ (.tail _ hx)))
                  replace j365 := j365.less (fun x hx => (.tail _ (.tail _ hx)))
                  exact hK21 ⟨st.i + 1, u364, nw, st.k, st.b, st.t⟩ ⟨(by show st.i + 1 ≤ acts.length; omega), hk', (by show 100 ≤ nw ∧ nw ≤ 100 + ((st.i + 1 : Nat) : Int) * 65535; omega), ht', hb', hB, hL, h1, hM, j365⟩ (by show acts.length - (st.i + 1) < acts.length - st.i; omega) (by repeat first | exact trivial | exact And.intro rfl trivial | refine And.intro rfl ?_ | refine And.intro (congrArg (fun z : Int => some (Value.int .i64 z)) (by omega)) ?_)
                ·
                  exact absurd (g472.symm.trans hbb) (by decide)
        ·
          refine WC.region ?_
          refine WL.val (dx_move rfl rfl) rfl rfl ?_
          refine WL.val (dx_move rfl rfl) rfl rfl ?_
          refine WL.val (dx_move rfl rfl) rfl rfl ?_
          refine WL.get (dx_idxF st.i rfl ty_slice_34 rfl rfl h1 (by omega) (at_mapX e29)) rfl rfl ?_
          rintro u473 _ ⟨rfl, p474⟩
          refine WL.get (dx_fldP 1 rfl ty_fld_38_0_0 rfl p474 (cs' := [.int .u16 la]) rfl (Nat.succ_pos _)) rfl rfl ?_
          rintro u475 _ ⟨rfl, p476⟩
          refine WL.val (dx_loadP rfl ty_one_36 rfl p476) rfl rfl ?_
          refine WL.val (dx_conv (r := la) rfl Tryd.underlying36 Tryd.underlying3 rfl (wrap64_id (by omega))) rfl rfl ?_
          refine WL.val (dx_add (r := nw) rfl rfl rfl (by rw [wrap64_id (by omega)]; omega)) rfl rfl ?_
          refine WL.val (dx_assign rfl rfl) rfl rfl ?_
          refine WL.nil ?_
          refine hK27 ?_
          refine WC.seq fun K477 hK477 => ?_
          refine WC.region ?_
          refine WL.get (dx_cv rfl Tryd.func13 rfl rfl rfl (ask_v W22 [] (LL.nil _))) rfl rfl ?_
          rintro _ W479 ⟨rfl, b478⟩
          replace h1 := h1.below b478
          replace hM := hM.below b478
          replace hlv := hlv.below b478
          replace hB := below_then hB b478
          replace hL := LL.below hL b478
          refine WL.get (dx_alloc rfl ty_zero_26 rfl) rfl rfl ?_
          rintro _ W480 ⟨rfl, k481, b482, z483⟩
          have l484 := hB.size
          replace h1 := h1.more b482 (Nat.le_refl _)
          replace hM := hM.more b482 (Nat.le_refl _)
          replace hlv := hlv.more b482 (Nat.le_refl _)
          replace hB := below_then hB b482
          replace hL := LL.more hL z483
          refine WL.do (dx_store (cs' := [.int .i64 5, .string ({ data := #[115] }), .string ({ data := #[101, 109, 97, 105, 108] }), .string ({ data := #[97, 64, 98, 46, 99] }), .string ({ data := #[116] }), .int .i64 1, .int .i64 100, .int .i64 0, .bool false, .int .i64 0]) (vs := [.int .i64 5, .string ({ data := #[115] }), .string ({ data := #[101, 109, 97, 105, 108] }), .string ({ data := #[97, 64, 98, 46, 99] }), .string ({ data := #[116] }), .int .i64 1, .int .i64 100, .int .i64 0, .bool false, .int .i64 0]) rfl ty_size_26_10 rfl rfl rfl (oc_cons rfl (oc_cons rfl (oc_cons rfl (oc_cons rfl (oc_cons rfl (oc_cons rfl (oc_cons rfl (oc_cons rfl (oc_cons rfl (oc_cons rfl oc_nil)))))))))) k481 rfl (Nat.le_of_ble_eq_true rfl) rfl) rfl ?_
          rintro _ W485 ⟨k487, o486⟩
          clear k481
          replace h1 := h1.only o486 (.head _)
          replace hM := hM.only o486 (.head _)
          replace hlv := hlv.only o486 (.head _)
          replace hB := o486.below hB l484
          replace hL := LL.only hL o486
          refine WL.nil ?_
          refine hK477 ?_
          refine WC.seq fun K488 hK488 => ?_
          refine WC.seq fun K489 hK489 => ?_
          refine WC.region ?_
          refine WL.val (dx_move rfl rfl) rfl rfl ?_
          refine WL.val (dx_move rfl rfl) rfl rfl ?_
          refine WL.get (dx_idxF st.i rfl ty_slice_34 rfl rfl h1 (by omega) (at_mapX e29)) rfl rfl ?_
          rintro u490 _ ⟨rfl, p491⟩
          refine WL.get (dx_fldP 1 rfl ty_fld_38_1_1 rfl p491 (cs' := [.bool true]) rfl (Nat.succ_pos _)) rfl rfl ?_
          rintro u492 _ ⟨rfl, p493⟩
          refine WL.val (dx_loadP rfl ty_one_4 rfl p493) rfl rfl ?_
          refine WL.val (dx_not rfl rfl) rfl rfl ?_
          refine WL.nil ?_
          refine hK489 ?_
          refine WC.condF rfl ?_
          refine WC.skip ?_
          refine hK488 ?_
          refine WC.seq fun K494 hK494 => ?_
          refine WC.seq fun K495 hK495 => ?_
          refine WC.region ?_
          refine WL.val (dx_move rfl rfl) rfl rfl ?_
          refine WL.val (dx_move rfl rfl) rfl rfl ?_
          refine WL.get (dx_idxF st.i rfl ty_slice_34 rfl rfl h1 (by omega) (at_mapX e29)) rfl rfl ?_
          rintro u496 _ ⟨rfl, p497⟩
          refine WL.get (dx_fldP 1 rfl ty_fld_38_2_2 rfl p497 (cs' := [.bool true]) rfl (Nat.succ_pos _)) rfl rfl ?_
          rintro u498 _ ⟨rfl, p499⟩
          refine WL.val (dx_loadP rfl ty_one_4 rfl p499) rfl rfl ?_
          refine WL.val (dx_not rfl rfl) rfl rfl ?_
          refine WL.nil ?_
          refine hK495 ?_
          refine WC.condF rfl ?_
          refine WC.skip ?_
          refine hK494 ?_
          refine WC.seq fun K500 hK500 => ?_
          have hg0 := st_good (b := st.b) hk ht hb
          have hnn : 0 ≤ nw ∧ nw ≤ 1099511627776 := by omega
          rcases (show 86500 < nw ∨ (nw ≤ 86500 ∧ st.k = 3) ∨ (nw ≤ 86500 ∧ st.k ≠ 3) by omega) with hc | ⟨hc, hk3⟩ | ⟨hc, hk3⟩
          ·
            obtain ⟨q1, q2⟩ := (st_sub (b := st.b) (w := (⟨5, { data := #[115] }, { data := #[101, 109, 97, 105, 108] }, { data := #[97, 64, 98, 46, 99] }, { data := #[116] }, 1, 100, 0, false, 0⟩ : SesX)) hg0 hnn rfl).1 (fun hc2 => by have := hc2.2; omega)
            refine WC.region ?_
            refine WL.val (dx_move rfl rfl) rfl rfl ?_
            refine WL.val (dx_move rfl rfl) rfl rfl ?_
            refine WL.val (dx_loadN rfl ty_agg_26_10 rfl k487.range rfl) rfl rfl ?_
            refine WL.get (dx_cv rfl Tryd.func14 rfl rfl rfl ((show CV _ _ [_, _, _] _ (fun v W => ∃ s2, v = .tuple #[s2, .int .i64 11] ∧ RdF 10 (W479.heap.size :: L) W s2 ([stZ st.k st.b st.t].map encZ)) from by have := submit_v [stZ st.k st.b st.t] nw (⟨5, { data := #[115] }, { data := #[101, 109, 97, 105, 108] }, { data := #[97, 64, 98, 46, 99] }, { data := #[116] }, 1, 100, 0, false, 0⟩ : SesX) _ W485 (W479.heap.size :: L) hL hlv hM (sm_st _ _ _); rw [q1, q2] at this; exact this))) rfl rfl ?_
            rintro _ W504 ⟨⟨u501, rfl, j502⟩, b503⟩
            replace h1 := h1.below b503
            replace hM := hM.below b503
            replace hlv := hlv.below b503
            replace k487 := k487.below b503
            replace hB := below_then hB b503
            replace hL := LL.below hL b503
            refine WL.val (dx_move rfl rfl) rfl rfl ?_
            refine WL.val (dx_extract rfl rfl rfl) rfl rfl ?_
            refine WL.val (dx_extract rfl rfl rfl) rfl rfl ?_
            refine WL.val (dx_assign rfl rfl) rfl rfl ?_
            refine WL.val (dx_assign rfl rfl) rfl rfl ?_
            refine WL.nil ?_
            refine hK500 ?_
            refine WC.seq fun K505 hK505 => ?_
            refine WC.region ?_
            refine WL.val (dx_move rfl rfl) rfl rfl ?_
            refine WL.val (dx_assign rfl rfl) rfl rfl ?_
            refine WL.nil ?_
            refine hK505 ?_
            refine WC.seq fun K506 hK506 => ?_
            refine WC.region ?_
            refine WL.val (dx_assign rfl rfl) rfl rfl ?_
            refine WL.nil ?_
            refine hK506 ?_
            refine WC.seq fun K507 hK507 => ?_
            refine WC.block ?_
            refine WC.seq fun K508 hK508 => ?_
            refine WC.region ?_
            refine WL.val (dx_move rfl rfl) rfl rfl ?_
            refine WL.val (dx_gtr rfl rfl rfl) rfl rfl ?_
            refine WL.val (dx_move rfl rfl) rfl rfl ?_
            refine WL.split 69 rfl (fun g509 => ?_) (fun g509 => ?_)
            ·
              replace g509 := of_decide_eq_true g509
              refine WL.off rfl rfl rfl ?_
              refine WL.off rfl rfl rfl ?_
              refine WL.off rfl rfl rfl ?_
              refine WL.off rfl rfl rfl ?_
              refine WL.off rfl rfl rfl ?_
              refine WL.off rfl rfl rfl ?_
              refine WL.val (dx_pick rfl rfl rfl) rfl rfl ?_
              refine WL.val (dx_assign rfl rfl) rfl rfl ?_
              refine WL.nil ?_
              refine hK508 ?_
              refine WC.condT rfl ?_
              refine WC.region ?_
              refine WL.val (dx_assign rfl rfl) rfl rfl ?_
              refine WL.nil ?_
              refine hK507 ?_
              refine WC.seq fun K510 hK510 => ?_
              refine WC.seq fun K511 hK511 => ?_
              refine WC.region ?_
              refine WL.val (dx_move rfl rfl) rfl rfl ?_
              refine WL.val (dx_move rfl rfl) rfl rfl ?_
              refine WL.val (dx_neq rfl rfl rfl) rfl rfl ?_
              refine WL.nil ?_
              refine hK511 ?_
              refine WC.condF rfl ?_
              refine WC.skip ?_
              refine hK510 ?_
              refine WC.seq fun K512 hK512 => ?_
              have hk' : 0 ≤ st.k ∧ st.k ≤ 3 := by omega
              have ht' : 0 ≤ st.t ∧ st.t ≤ 1099511627776 := by first | omega | (split <;> omega)
              have hb' : st.b = false → st.t = 0 := hb
              have hg1 := st_good (b := st.b) hk' ht' hb'
              have q3 := (st_sh (b := st.b) hg1 hnn).2.2 hc
              refine WC.region ?_
              refine WL.val (dx_move rfl rfl) rfl rfl ?_
              refine WL.val (dx_move rfl rfl) rfl rfl ?_
              refine WL.get (dx_cv rfl Tryd.func13 rfl rfl rfl (ask_v W504 [] (LL.nil _))) rfl rfl ?_
              rintro _ W514 ⟨rfl, b513⟩
              replace h1 := h1.below b513
              replace hM := hM.below b513
              replace hlv := hlv.below b513
              replace j502 := j502.below b513
              replace k487 := k487.below b513
              replace hB := below_then hB b513
              replace hL := LL.below hL b513
              refine WL.get (dx_cv rfl Tryd.func15 rfl rfl rfl ((show CV _ _ [_, _, _] _ (fun v W => v = .tuple #[.agg #[.string ⟨#[]⟩, .string ⟨#[]⟩], .int .i64 11]) from by have := shown_v [stZ st.k st.b st.t] nw askZ _ W514 (W479.heap.size :: L) hL j502 hM (sm_st _ _ _); have q4 : shM [stZ st.k st.b st.t] nw askZ = ⟨#[]⟩ := (by unfold shM; rw [if_neg (by rw [q3]; decide)]); have q5 : shW [stZ st.k st.b st.t] nw askZ = ⟨#[]⟩ := (by unfold shW; rw [if_neg (by rw [q3]; decide)]); rw [q3, q4, q5] at this; exact this))) rfl rfl ?_
              rintro _ W516 ⟨rfl, b515⟩
              replace h1 := h1.below b515
              replace hM := hM.below b515
              replace hlv := hlv.below b515
              replace j502 := j502.below b515
              replace k487 := k487.below b515
              replace hB := below_then hB b515
              replace hL := LL.below hL b515
              refine WL.val (dx_move rfl rfl) rfl rfl ?_
              refine WL.val (dx_extract rfl rfl rfl) rfl rfl ?_
              refine WL.val (dx_extract rfl rfl rfl) rfl rfl ?_
              refine WL.get (dx_alloc rfl ty_zero_24 rfl) rfl rfl ?_
              rintro _ W517 ⟨rfl, k518, b519, z520⟩
              have n521 : W479.heap.size ≠ W516.heap.size := Nat.ne_of_lt k487.lt
              have l522 := hB.size
              replace h1 := h1.more b519 (Nat.le_refl _)
              replace hM := hM.more b519 (Nat.le_refl _)
              replace hlv := hlv.more b519 (Nat.le_refl _)
              replace j502 := j502.more b519 (Nat.le_refl _)
              replace k487 := k487.below b519
              replace hB := below_then hB b519
              replace hL := LL.more hL z520
              refine WL.do (dx_store (cs' := [.string ⟨#[]⟩, .string ⟨#[]⟩]) (vs := [.string ⟨#[]⟩, .string ⟨#[]⟩]) rfl ty_size_24_2 rfl rfl rfl (oc_cons rfl (oc_cons rfl oc_nil)) k518 rfl (Nat.le_of_ble_eq_true rfl) rfl) rfl ?_
              rintro _ W523 ⟨k525, o524⟩
              replace k487 := k487.other o524 n521
              clear k518
              replace h1 := h1.only o524 (.head _)
              replace hM := hM.only o524 (.head _)
              replace hlv := hlv.only o524 (.head _)
              replace j502 := j502.only o524 (.head _)
              replace hB := o524.below hB l522
              replace hL := LL.only hL o524
              refine WL.val (dx_assign rfl rfl) rfl rfl ?_
              refine WL.nil ?_
              refine hK512 ?_
              refine WC.seq fun K526 hK526 => ?_
              refine WC.region ?_
              refine WL.val (dx_move rfl rfl) rfl rfl ?_
              refine WL.val (dx_eql rfl rfl rfl) rfl rfl ?_
              refine WL.val (dx_move rfl rfl) rfl rfl ?_
              refine WL.val (dx_move rfl rfl) rfl rfl ?_
              refine WL.split 102 rfl (fun g527 => ?_) (fun g527 => ?_)
              ·
                refine WL.val (dx_move rfl rfl) rfl rfl ?_
                refine WL.val (dv_N (dx_leq rfl rfl rfl) (by omega)) rfl rfl ?_
                refine WL.val (dx_pick rfl rfl rfl) rfl rfl ?_
                refine WL.val (dv_Fz (dx_neqB rfl Tryd.underlying4 rfl rfl) (by decide)) rfl rfl ?_
                refine WL.nil ?_
                refine hK526 ?_
                refine WC.condF rfl ?_
                refine WC.skip ?_
                refine hK26 ?_
                refine WC.region ?_
                refine WL.val (dx_move rfl rfl) rfl rfl ?_
                refine WL.val (dx_add (r := (st.i : Int) + 1) rfl rfl rfl (wrap64_id (by omega))) rfl rfl ?_
                refine WL.val (dx_assign rfl rfl) rfl rfl ?_
                refine WL.nil ?_
                replace hL := hL.less (fun x hx => (.tail _ (.tail _ hx)))
                replace h1 := h1.less (fun x hx => (.tail _ (.tail _ hx)))
                replace hM := hM.less (fun x hx => (.tail _ (.tail _ hx)))
                replace j502 := j502.less (fun x hx => (.tail _ (.tail _ hx)))
                exact hK21 ⟨st.i + 1, u501, nw, st.k, st.b, st.t⟩ ⟨(by show st.i + 1 ≤ acts.length; omega), hk', (by show 100 ≤ nw ∧ nw ≤ 100 + ((st.i + 1 : Nat) : Int) * 65535; omega), ht', hb', hB, hL, h1, hM, j502⟩ (by show acts.length - (st.i + 1) < acts.length - st.i; omega) (by repeat first | exact trivial | exact And.intro rfl trivial | refine And.intro rfl ?_ | refine And.intro (congrArg (fun z : Int => some (Value.int .i64 z)) (by omega)) ?_)
              ·
                refine WL.off rfl rfl rfl ?_
                refine WL.off rfl rfl rfl ?_
                refine WL.val (dx_pick rfl rfl rfl) rfl rfl ?_
                refine WL.val (dv_Fz (dx_neqB rfl Tryd.underlying4 rfl rfl) (by decide)) rfl rfl ?_
                refine WL.nil ?_
                refine hK526 ?_
                refine WC.condF rfl ?_
                refine WC.skip ?_
                refine hK26 ?_
                refine WC.region ?_
                refine WL.val (dx_move rfl rfl) rfl rfl ?_
                refine WL.val (dx_add (r := (st.i : Int) + 1) rfl rfl rfl (wrap64_id (by omega))) rfl rfl ?_
                refine WL.val (dx_assign rfl rfl) rfl rfl ?_
                refine WL.nil ?_
                replace hL := hL.less (fun x hx => (.tail _ (.tail _ hx)))
                replace h1 := h1.less (fun x hx => (.tail _ (.tail _ hx)))
                replace hM := hM.less (fun x hx => (.tail _ (.tail _ hx)))
                replace j502 := j502.less (fun x hx => (.tail _ (.tail _ hx)))
                exact hK21 ⟨st.i + 1, u501, nw, st.k, st.b, st.t⟩ ⟨(by show st.i + 1 ≤ acts.length; omega), hk', (by show 100 ≤ nw ∧ nw ≤ 100 + ((st.i + 1 : Nat) : Int) * 65535; omega), ht', hb', hB, hL, h1, hM, j502⟩ (by show acts.length - (st.i + 1) < acts.length - st.i; omega) (by repeat first | exact trivial | exact And.intro rfl trivial | refine And.intro rfl ?_ | refine And.intro (congrArg (fun z : Int => some (Value.int .i64 z)) (by omega)) ?_)
            ·
              replace g509 := of_decide_eq_false g509
              exfalso; omega
          ·
            obtain ⟨q1, q2⟩ := ((st_sub (b := st.b) (w := (⟨5, { data := #[115] }, { data := #[101, 109, 97, 105, 108] }, { data := #[97, 64, 98, 46, 99] }, { data := #[116] }, 1, 100, 0, false, 0⟩ : SesX)) hg0 hnn rfl).2 rfl hc).1 hk3
            refine WC.region ?_
            refine WL.val (dx_move rfl rfl) rfl rfl ?_
            refine WL.val (dx_move rfl rfl) rfl rfl ?_
            refine WL.val (dx_loadN rfl ty_agg_26_10 rfl k487.range rfl) rfl rfl ?_
            refine WL.get (dx_cv rfl Tryd.func14 rfl rfl rfl ((show CV _ _ [_, _, _] _ (fun v W => ∃ s2, v = .tuple #[s2, .int .i64 16] ∧ RdF 10 (W479.heap.size :: L) W s2 ([stZ st.k st.b st.t].map encZ)) from by have := submit_v [stZ st.k st.b st.t] nw (⟨5, { data := #[115] }, { data := #[101, 109, 97, 105, 108] }, { data := #[97, 64, 98, 46, 99] }, { data := #[116] }, 1, 100, 0, false, 0⟩ : SesX) _ W485 (W479.heap.size :: L) hL hlv hM (sm_st _ _ _); rw [q1, q2] at this; exact this))) rfl rfl ?_
            rintro _ W531 ⟨⟨u528, rfl, j529⟩, b530⟩
            replace h1 := h1.below b530
            replace hM := hM.below b530
            replace hlv := hlv.below b530
            replace k487 := k487.below b530
            replace hB := below_then hB b530
            replace hL := LL.below hL b530
            refine WL.val (dx_move rfl rfl) rfl rfl ?_
            refine WL.val (dx_extract rfl rfl rfl) rfl rfl ?_
            refine WL.val (dx_extract rfl rfl rfl) rfl rfl ?_
            refine WL.val (dx_assign rfl rfl) rfl rfl ?_
            refine WL.val (dx_assign rfl rfl) rfl rfl ?_
            refine WL.nil ?_
            refine hK500 ?_
            refine WC.seq fun K532 hK532 => ?_
            refine WC.region ?_
            refine WL.val (dx_move rfl rfl) rfl rfl ?_
            refine WL.val (dx_assign rfl rfl) rfl rfl ?_
            refine WL.nil ?_
            refine hK532 ?_
            refine WC.seq fun K533 hK533 => ?_
            refine WC.region ?_
            refine WL.val (dx_assign rfl rfl) rfl rfl ?_
            refine WL.nil ?_
            refine hK533 ?_
            refine WC.seq fun K534 hK534 => ?_
            refine WC.block ?_
            refine WC.seq fun K535 hK535 => ?_
            refine WC.region ?_
            refine WL.val (dx_move rfl rfl) rfl rfl ?_
            refine WL.val (dx_gtr rfl rfl rfl) rfl rfl ?_
            refine WL.val (dx_move rfl rfl) rfl rfl ?_
            refine WL.split 69 rfl (fun g536 => ?_) (fun g536 => ?_)
            ·
              replace g536 := of_decide_eq_true g536
              exfalso; omega
            ·
              replace g536 := of_decide_eq_false g536
              refine WL.val (dx_move rfl rfl) rfl rfl ?_
              refine WL.val (dx_move rfl rfl) rfl rfl ?_
              refine WL.get (dx_idxF st.i rfl ty_slice_34 rfl rfl h1 (by omega) (at_mapX e29)) rfl rfl ?_
              rintro u537 _ ⟨rfl, p538⟩
              refine WL.get (dx_fldP 1 rfl ty_fld_38_2_2 rfl p538 (cs' := [.bool true]) rfl (Nat.succ_pos _)) rfl rfl ?_
              rintro u539 _ ⟨rfl, p540⟩
              refine WL.val (dx_loadP rfl ty_one_4 rfl p540) rfl rfl ?_
              refine WL.val (dx_not rfl rfl) rfl rfl ?_
              refine WL.val (dx_pick rfl rfl rfl) rfl rfl ?_
              refine WL.val (dx_assign rfl rfl) rfl rfl ?_
              refine WL.nil ?_
              refine hK535 ?_
              refine WC.condF rfl ?_
              refine WC.seq fun K541 hK541 => ?_
              refine WC.region ?_
              refine WL.val (dx_move rfl rfl) rfl rfl ?_
              refine WL.val (dx_eql rfl rfl rfl) rfl rfl ?_
              refine WL.val (dx_assign rfl rfl) rfl rfl ?_
              refine WL.nil ?_
              refine hK541 ?_
              refine WC.cond rfl (fun c542 => ?_) (fun c542 => ?_)
              ·
                replace c542 := of_decide_eq_true c542
                refine WC.region ?_
                refine WL.val (dx_assign rfl rfl) rfl rfl ?_
                refine WL.nil ?_
                refine hK534 ?_
                refine WC.seq fun K543 hK543 => ?_
                refine WC.seq fun K544 hK544 => ?_
                refine WC.region ?_
                refine WL.val (dx_move rfl rfl) rfl rfl ?_
                refine WL.val (dx_move rfl rfl) rfl rfl ?_
                refine WL.val (dx_neq rfl rfl rfl) rfl rfl ?_
                refine WL.nil ?_
                refine hK544 ?_
                refine WC.condF rfl ?_
                refine WC.skip ?_
                refine hK543 ?_
                refine WC.seq fun K545 hK545 => ?_
                have hk' : 0 ≤ st.k ∧ st.k ≤ 3 := by omega
                have ht' : 0 ≤ st.t ∧ st.t ≤ 1099511627776 := by first | omega | (split <;> omega)
                have hb' : st.b = false → st.t = 0 := hb
                have hg1 := st_good (b := st.b) hk' ht' hb'
                rcases (show st.b = false ∨ st.b = true by cases st.b <;> simp) with hbb | hbb
                ·
                  have q3 := (st_sh (b := st.b) hg1 hnn).2.1 hc hbb
                  refine WC.region ?_
                  refine WL.val (dx_move rfl rfl) rfl rfl ?_
                  refine WL.val (dx_move rfl rfl) rfl rfl ?_
                  refine WL.get (dx_cv rfl Tryd.func13 rfl rfl rfl (ask_v W531 [] (LL.nil _))) rfl rfl ?_
                  rintro _ W547 ⟨rfl, b546⟩
                  replace h1 := h1.below b546
                  replace hM := hM.below b546
                  replace hlv := hlv.below b546
                  replace j529 := j529.below b546
                  replace k487 := k487.below b546
                  replace hB := below_then hB b546
                  replace hL := LL.below hL b546
                  refine WL.get (dx_cv rfl Tryd.func15 rfl rfl rfl ((show CV _ _ [_, _, _] _ (fun v W => v = .tuple #[.agg #[.string ⟨#[]⟩, .string ⟨#[]⟩], .int .i64 14]) from by have := shown_v [stZ st.k st.b st.t] nw askZ _ W547 (W479.heap.size :: L) hL j529 hM (sm_st _ _ _); have q4 : shM [stZ st.k st.b st.t] nw askZ = ⟨#[]⟩ := (by unfold shM; rw [if_neg (by rw [q3]; decide)]); have q5 : shW [stZ st.k st.b st.t] nw askZ = ⟨#[]⟩ := (by unfold shW; rw [if_neg (by rw [q3]; decide)]); rw [q3, q4, q5] at this; exact this))) rfl rfl ?_
                  rintro _ W549 ⟨rfl, b548⟩
                  replace h1 := h1.below b548
                  replace hM := hM.below b548
                  replace hlv := hlv.below b548
                  replace j529 := j529.below b548
                  replace k487 := k487.below b548
                  replace hB := below_then hB b548
                  replace hL := LL.below hL b548
                  refine WL.val (dx_move rfl rfl) rfl rfl ?_
                  refine WL.val (dx_extract rfl rfl rfl) rfl rfl ?_
                  refine WL.val (dx_extract rfl rfl rfl) rfl rfl ?_
                  refine WL.get (dx_alloc rfl ty_zero_24 rfl) rfl rfl ?_
                  rintro _ W550 ⟨rfl, k551, b552, z553⟩
                  have n554 : W479.heap.size ≠ W549.heap.size := Nat.ne_of_lt k487.lt
                  have l555 := hB.size
                  replace h1 := h1.more b552 (Nat.le_refl _)
                  replace hM := hM.more b552 (Nat.le_refl _)
                  replace hlv := hlv.more b552 (Nat.le_refl _)
                  replace j529 := j529.more b552 (Nat.le_refl _)
                  replace k487 := k487.below b552
                  replace hB := below_then hB b552
                  replace hL := LL.more hL z553
                  refine WL.do (dx_store (cs' := [.string ⟨#[]⟩, .string ⟨#[]⟩]) (vs := [.string ⟨#[]⟩, .string ⟨#[]⟩]) rfl ty_size_24_2 rfl rfl rfl (oc_cons rfl (oc_cons rfl oc_nil)) k551 rfl (Nat.le_of_ble_eq_true rfl) rfl) rfl ?_
                  rintro _ W556 ⟨k558, o557⟩
                  replace k487 := k487.other o557 n554
                  clear k551
                  replace h1 := h1.only o557 (.head _)
                  replace hM := hM.only o557 (.head _)
                  replace hlv := hlv.only o557 (.head _)
                  replace j529 := j529.only o557 (.head _)
                  replace hB := o557.below hB l555
                  replace hL := LL.only hL o557
                  refine WL.val (dx_assign rfl rfl) rfl rfl ?_
                  refine WL.nil ?_
                  refine hK545 ?_
                  refine WC.seq fun K559 hK559 => ?_
                  refine WC.region ?_
                  refine WL.val (dx_move rfl rfl) rfl rfl ?_
                  refine WL.val (dx_eql rfl rfl rfl) rfl rfl ?_
                  refine WL.val (dx_move rfl rfl) rfl rfl ?_
                  refine WL.val (dx_move rfl rfl) rfl rfl ?_
                  refine WL.split 102 rfl (fun g560 => ?_) (fun g560 => ?_)
                  ·
                    exact absurd (g560.symm.trans hbb) (by decide)
                  ·
                    refine WL.off rfl rfl rfl ?_
                    refine WL.off rfl rfl rfl ?_
                    refine WL.val (dx_pick rfl rfl rfl) rfl rfl ?_
                    refine WL.val (dv_Fz (dx_neqB rfl Tryd.underlying4 rfl rfl) (by decide)) rfl rfl ?_
                    refine WL.nil ?_
                    refine hK559 ?_
                    refine WC.condF rfl ?_
                    refine WC.skip ?_
                    refine hK26 ?_
                    refine WC.region ?_
                    refine WL.val (dx_move rfl rfl) rfl rfl ?_
                    refine WL.val (dx_add (r := (st.i : Int) + 1) rfl rfl rfl (wrap64_id (by omega))) rfl rfl ?_
                    refine WL.val (dx_assign rfl rfl) rfl rfl ?_
                    refine WL.nil ?_
                    replace hL := hL.less (fun x hx => (.tail _ (.tail _ hx)))
                    replace h1 := h1.less (fun x hx => (.tail _ (.tail _ hx)))
                    replace hM := hM.less (fun x hx => (.tail _ (.tail _ hx)))
                    replace j529 := j529.less (fun x hx => (.tail _ (.tail _ hx)))
                    exact hK21 ⟨st.i + 1, u528, nw, st.k, st.b, st.t⟩ ⟨(by show st.i + 1 ≤ acts.length; omega), hk', (by show 100 ≤ nw ∧ nw ≤ 100 + ((st.i + 1 : Nat) : Int) * 65535; omega), ht', hb', hB, hL, h1, hM, j529⟩ (by show acts.length - (st.i + 1) < acts.length - st.i; omega) (by repeat first | exact trivial | exact And.intro rfl trivial | refine And.intro rfl ?_ | refine And.intro (congrArg (fun z : Int => some (Value.int .i64 z)) (by omega)) ?_)
                ·
                  obtain ⟨q3, q4, q5⟩ := (st_sh (b := st.b) hg1 hnn).1 hc hbb
                  refine WC.region ?_
                  refine WL.val (dx_move rfl rfl) rfl rfl ?_
                  refine WL.val (dx_move rfl rfl) rfl rfl ?_
                  refine WL.get (dx_cv rfl Tryd.func13 rfl rfl rfl (ask_v W531 [] (LL.nil _))) rfl rfl ?_
                  rintro _ W562 ⟨rfl, b561⟩
                  replace h1 := h1.below b561
                  replace hM := hM.below b561
                  replace hlv := hlv.below b561
                  replace j529 := j529.below b561
                  replace k487 := k487.below b561
                  replace hB := below_then hB b561
                  replace hL := LL.below hL b561
                  refine WL.get (dx_cv rfl Tryd.func15 rfl rfl rfl ((show CV _ _ [_, _, _] _ (fun v W => v = .tuple #[.agg #[.string { data := #[101, 109, 97, 105, 108] }, .string { data := #[97, 64, 98, 46, 99] }], .int .i64 0]) from by have := shown_v [stZ st.k st.b st.t] nw askZ _ W562 (W479.heap.size :: L) hL j529 hM (sm_st _ _ _); rw [q3, q4, q5] at this; exact this))) rfl rfl ?_
                  rintro _ W564 ⟨rfl, b563⟩
                  replace h1 := h1.below b563
                  replace hM := hM.below b563
                  replace hlv := hlv.below b563
                  replace j529 := j529.below b563
                  replace k487 := k487.below b563
                  replace hB := below_then hB b563
                  replace hL := LL.below hL b563
                  refine WL.val (dx_move rfl rfl) rfl rfl ?_
                  refine WL.val (dx_extract rfl rfl rfl) rfl rfl ?_
                  refine WL.val (dx_extract rfl rfl rfl) rfl rfl ?_
                  refine WL.get (dx_alloc rfl ty_zero_24 rfl) rfl rfl ?_
                  rintro _ W565 ⟨rfl, k566, b567, z568⟩
                  have n569 : W479.heap.size ≠ W564.heap.size := Nat.ne_of_lt k487.lt
                  have l570 := hB.size
                  replace h1 := h1.more b567 (Nat.le_refl _)
                  replace hM := hM.more b567 (Nat.le_refl _)
                  replace hlv := hlv.more b567 (Nat.le_refl _)
                  replace j529 := j529.more b567 (Nat.le_refl _)
                  replace k487 := k487.below b567
                  replace hB := below_then hB b567
                  replace hL := LL.more hL z568
                  refine WL.do (dx_store (cs' := [.string ({ data := #[101, 109, 97, 105, 108] }), .string ({ data := #[97, 64, 98, 46, 99] })]) (vs := [.string ({ data := #[101, 109, 97, 105, 108] }), .string ({ data := #[97, 64, 98, 46, 99] })]) rfl ty_size_24_2 rfl rfl rfl (oc_cons rfl (oc_cons rfl oc_nil)) k566 rfl (Nat.le_of_ble_eq_true rfl) rfl) rfl ?_
                  rintro _ W571 ⟨k573, o572⟩
                  replace k487 := k487.other o572 n569
                  clear k566
                  replace h1 := h1.only o572 (.head _)
                  replace hM := hM.only o572 (.head _)
                  replace hlv := hlv.only o572 (.head _)
                  replace j529 := j529.only o572 (.head _)
                  replace hB := o572.below hB l570
                  replace hL := LL.only hL o572
                  refine WL.val (dx_assign rfl rfl) rfl rfl ?_
                  refine WL.nil ?_
                  refine hK545 ?_
                  refine WC.seq fun K574 hK574 => ?_
                  refine WC.region ?_
                  refine WL.val (dx_move rfl rfl) rfl rfl ?_
                  refine WL.val (dx_eql rfl rfl rfl) rfl rfl ?_
                  refine WL.val (dx_move rfl rfl) rfl rfl ?_
                  refine WL.val (dx_move rfl rfl) rfl rfl ?_
                  refine WL.split 102 rfl (fun g575 => ?_) (fun g575 => ?_)
                  ·
                    refine WL.val (dx_move rfl rfl) rfl rfl ?_
                    refine WL.val (dv_T (dx_leq rfl rfl rfl) (by omega)) rfl rfl ?_
                    refine WL.val (dx_pick rfl rfl rfl) rfl rfl ?_
                    refine WL.val (dv_Fz (dx_neqB rfl Tryd.underlying4 rfl rfl) (by decide)) rfl rfl ?_
                    refine WL.nil ?_
                    refine hK574 ?_
                    refine WC.condF rfl ?_
                    refine WC.skip ?_
                    refine hK26 ?_
                    refine WC.region ?_
                    refine WL.val (dx_move rfl rfl) rfl rfl ?_
                    refine WL.val (dx_add (r := (st.i : Int) + 1) rfl rfl rfl (wrap64_id (by omega))) rfl rfl ?_
                    refine WL.val (dx_assign rfl rfl) rfl rfl ?_
                    refine WL.nil ?_
                    replace hL := hL.less (fun x hx => (.tail _ (.tail _ hx)))
                    replace h1 := h1.less (fun x hx => (.tail _ (.tail _ hx)))
                    replace hM := hM.less (fun x hx => (.tail _ (.tail _ hx)))
                    replace j529 := j529.less (fun x hx => (.tail _ (.tail _ hx)))
                    exact hK21 ⟨st.i + 1, u528, nw, st.k, st.b, st.t⟩ ⟨(by show st.i + 1 ≤ acts.length; omega), hk', (by show 100 ≤ nw ∧ nw ≤ 100 + ((st.i + 1 : Nat) : Int) * 65535; omega), ht', hb', hB, hL, h1, hM, j529⟩ (by show acts.length - (st.i + 1) < acts.length - st.i; omega) (by repeat first | exact trivial | exact And.intro rfl trivial | refine And.intro rfl ?_ | refine And.intro (congrArg (fun z : Int => some (Value.int .i64 z)) (by omega)) ?_)
                  ·
                    exact absurd (g575.symm.trans hbb) (by decide)
              ·
                replace c542 := of_decide_eq_false c542
                exfalso; omega
          ·
            obtain ⟨q1, q2⟩ := (((st_sub (b := st.b) (w := (⟨5, { data := #[115] }, { data := #[101, 109, 97, 105, 108] }, { data := #[97, 64, 98, 46, 99] }, { data := #[116] }, 1, 100, 0, false, 0⟩ : SesX)) hg0 hnn rfl).2 rfl hc).2 hk3).1 rfl
            refine WC.region ?_
            refine WL.val (dx_move rfl rfl) rfl rfl ?_
            refine WL.val (dx_move rfl rfl) rfl rfl ?_
            refine WL.val (dx_loadN rfl ty_agg_26_10 rfl k487.range rfl) rfl rfl ?_
            refine WL.get (dx_cv rfl Tryd.func14 rfl rfl rfl ((show CV _ _ [_, _, _] _ (fun v W => ∃ s2, v = .tuple #[s2, .int .i64 0] ∧ RdF 10 (W479.heap.size :: L) W s2 ([stZ st.k true (if st.b = true then st.t else nw)].map encZ)) from by have := submit_v [stZ st.k st.b st.t] nw (⟨5, { data := #[115] }, { data := #[101, 109, 97, 105, 108] }, { data := #[97, 64, 98, 46, 99] }, { data := #[116] }, 1, 100, 0, false, 0⟩ : SesX) _ W485 (W479.heap.size :: L) hL hlv hM (sm_st _ _ _); rw [q1, q2] at this; exact this))) rfl rfl ?_
            rintro _ W579 ⟨⟨u576, rfl, j577⟩, b578⟩
            replace h1 := h1.below b578
            replace hM := hM.below b578
            replace hlv := hlv.below b578
            replace k487 := k487.below b578
            replace hB := below_then hB b578
            replace hL := LL.below hL b578
            refine WL.val (dx_move rfl rfl) rfl rfl ?_
            refine WL.val (dx_extract rfl rfl rfl) rfl rfl ?_
            refine WL.val (dx_extract rfl rfl rfl) rfl rfl ?_
            refine WL.val (dx_assign rfl rfl) rfl rfl ?_
            refine WL.val (dx_assign rfl rfl) rfl rfl ?_
            refine WL.nil ?_
            refine hK500 ?_
            refine WC.seq fun K580 hK580 => ?_
            refine WC.region ?_
            refine WL.val (dx_move rfl rfl) rfl rfl ?_
            refine WL.val (dx_assign rfl rfl) rfl rfl ?_
            refine WL.nil ?_
            refine hK580 ?_
            refine WC.seq fun K581 hK581 => ?_
            refine WC.region ?_
            refine WL.val (dx_assign rfl rfl) rfl rfl ?_
            refine WL.nil ?_
            refine hK581 ?_
            refine WC.seq fun K582 hK582 => ?_
            refine WC.block ?_
            refine WC.seq fun K583 hK583 => ?_
            refine WC.region ?_
            refine WL.val (dx_move rfl rfl) rfl rfl ?_
            refine WL.val (dx_gtr rfl rfl rfl) rfl rfl ?_
            refine WL.val (dx_move rfl rfl) rfl rfl ?_
            refine WL.split 69 rfl (fun g584 => ?_) (fun g584 => ?_)
            ·
              replace g584 := of_decide_eq_true g584
              exfalso; omega
            ·
              replace g584 := of_decide_eq_false g584
              refine WL.val (dx_move rfl rfl) rfl rfl ?_
              refine WL.val (dx_move rfl rfl) rfl rfl ?_
              refine WL.get (dx_idxF st.i rfl ty_slice_34 rfl rfl h1 (by omega) (at_mapX e29)) rfl rfl ?_
              rintro u585 _ ⟨rfl, p586⟩
              refine WL.get (dx_fldP 1 rfl ty_fld_38_2_2 rfl p586 (cs' := [.bool true]) rfl (Nat.succ_pos _)) rfl rfl ?_
              rintro u587 _ ⟨rfl, p588⟩
              refine WL.val (dx_loadP rfl ty_one_4 rfl p588) rfl rfl ?_
              refine WL.val (dx_not rfl rfl) rfl rfl ?_
              refine WL.val (dx_pick rfl rfl rfl) rfl rfl ?_
              refine WL.val (dx_assign rfl rfl) rfl rfl ?_
              refine WL.nil ?_
              refine hK583 ?_
              refine WC.condF rfl ?_
              refine WC.seq fun K589 hK589 => ?_
              refine WC.region ?_
              refine WL.val (dx_move rfl rfl) rfl rfl ?_
              refine WL.val (dx_eql rfl rfl rfl) rfl rfl ?_
              refine WL.val (dx_assign rfl rfl) rfl rfl ?_
              refine WL.nil ?_
              refine hK589 ?_
              refine WC.cond rfl (fun c590 => ?_) (fun c590 => ?_)
              ·
                replace c590 := of_decide_eq_true c590
                exfalso; omega
              ·
                replace c590 := of_decide_eq_false c590
                refine WC.seq fun K591 hK591 => ?_
                refine WC.region ?_
                refine WL.val (dx_move rfl rfl) rfl rfl ?_
                refine WL.val (dx_move rfl rfl) rfl rfl ?_
                refine WL.get (dx_idxF st.i rfl ty_slice_34 rfl rfl h1 (by omega) (at_mapX e29)) rfl rfl ?_
                rintro u592 _ ⟨rfl, p593⟩
                refine WL.get (dx_fldP 1 rfl ty_fld_38_1_1 rfl p593 (cs' := [.bool true]) rfl (Nat.succ_pos _)) rfl rfl ?_
                rintro u594 _ ⟨rfl, p595⟩
                refine WL.val (dx_loadP rfl ty_one_4 rfl p595) rfl rfl ?_
                refine WL.val (dx_not rfl rfl) rfl rfl ?_
                refine WL.val (dx_assign rfl rfl) rfl rfl ?_
                refine WL.nil ?_
                refine hK591 ?_
                refine WC.condF rfl ?_
                refine WC.region ?_
                refine WL.val (dx_assign rfl rfl) rfl rfl ?_
                refine WL.nil ?_
                refine hK582 ?_
                refine WC.seq fun K596 hK596 => ?_
                refine WC.seq fun K597 hK597 => ?_
                refine WC.region ?_
                refine WL.val (dx_move rfl rfl) rfl rfl ?_
                refine WL.val (dx_move rfl rfl) rfl rfl ?_
                refine WL.val (dx_neq rfl rfl rfl) rfl rfl ?_
                refine WL.nil ?_
                refine hK597 ?_
                refine WC.condF rfl ?_
                refine WC.skip ?_
                refine hK596 ?_
                refine WC.seq fun K598 hK598 => ?_
                have hk' : 0 ≤ st.k ∧ st.k ≤ 3 := by omega
                have ht' : 0 ≤ (if st.b = true then st.t else nw) ∧ (if st.b = true then st.t else nw) ≤ 1099511627776 := by first | omega | (split <;> omega)
                have hb' : true = false → (if st.b = true then st.t else nw) = 0 := (fun h => by cases h)
                have hg1 := st_good (b := true) hk' ht' hb'
                obtain ⟨q3, q4, q5⟩ := (st_sh (b := true) hg1 hnn).1 hc rfl
                refine WC.region ?_
                refine WL.val (dx_move rfl rfl) rfl rfl ?_
                refine WL.val (dx_move rfl rfl) rfl rfl ?_
                refine WL.get (dx_cv rfl Tryd.func13 rfl rfl rfl (ask_v W579 [] (LL.nil _))) rfl rfl ?_
                rintro _ W600 ⟨rfl, b599⟩
                replace h1 := h1.below b599
                replace hM := hM.below b599
                replace hlv := hlv.below b599
                replace j577 := j577.below b599
                replace k487 := k487.below b599
                replace hB := below_then hB b599
                replace hL := LL.below hL b599
                refine WL.get (dx_cv rfl Tryd.func15 rfl rfl rfl ((show CV _ _ [_, _, _] _ (fun v W => v = .tuple #[.agg #[.string { data := #[101, 109, 97, 105, 108] }, .string { data := #[97, 64, 98, 46, 99] }], .int .i64 0]) from by have := shown_v [stZ st.k true (if st.b = true then st.t else nw)] nw askZ _ W600 (W479.heap.size :: L) hL j577 hM (sm_st _ _ _); rw [q3, q4, q5] at this; exact this))) rfl rfl ?_
                rintro _ W602 ⟨rfl, b601⟩
                replace h1 := h1.below b601
                replace hM := hM.below b601
                replace hlv := hlv.below b601
                replace j577 := j577.below b601
                replace k487 := k487.below b601
                replace hB := below_then hB b601
                replace hL := LL.below hL b601
                refine WL.val (dx_move rfl rfl) rfl rfl ?_
                refine WL.val (dx_extract rfl rfl rfl) rfl rfl ?_
                refine WL.val (dx_extract rfl rfl rfl) rfl rfl ?_
                refine WL.get (dx_alloc rfl ty_zero_24 rfl) rfl rfl ?_
                rintro _ W603 ⟨rfl, k604, b605, z606⟩
                have n607 : W479.heap.size ≠ W602.heap.size := Nat.ne_of_lt k487.lt
                have l608 := hB.size
                replace h1 := h1.more b605 (Nat.le_refl _)
                replace hM := hM.more b605 (Nat.le_refl _)
                replace hlv := hlv.more b605 (Nat.le_refl _)
                replace j577 := j577.more b605 (Nat.le_refl _)
                replace k487 := k487.below b605
                replace hB := below_then hB b605
                replace hL := LL.more hL z606
                refine WL.do (dx_store (cs' := [.string ({ data := #[101, 109, 97, 105, 108] }), .string ({ data := #[97, 64, 98, 46, 99] })]) (vs := [.string ({ data := #[101, 109, 97, 105, 108] }), .string ({ data := #[97, 64, 98, 46, 99] })]) rfl ty_size_24_2 rfl rfl rfl (oc_cons rfl (oc_cons rfl oc_nil)) k604 rfl (Nat.le_of_ble_eq_true rfl) rfl) rfl ?_
                rintro _ W609 ⟨k611, o610⟩
                replace k487 := k487.other o610 n607
                clear k604
                replace h1 := h1.only o610 (.head _)
                replace hM := hM.only o610 (.head _)
                replace hlv := hlv.only o610 (.head _)
                replace j577 := j577.only o610 (.head _)
                replace hB := o610.below hB l608
                replace hL := LL.only hL o610
                refine WL.val (dx_assign rfl rfl) rfl rfl ?_
                refine WL.nil ?_
                refine hK598 ?_
                refine WC.seq fun K612 hK612 => ?_
                refine WC.region ?_
                refine WL.val (dx_move rfl rfl) rfl rfl ?_
                refine WL.val (dx_eql rfl rfl rfl) rfl rfl ?_
                refine WL.val (dx_move rfl rfl) rfl rfl ?_
                refine WL.val (dx_move rfl rfl) rfl rfl ?_
                refine WL.val (dx_move rfl rfl) rfl rfl ?_
                refine WL.val (dv_T (dx_leq rfl rfl rfl) (by omega)) rfl rfl ?_
                refine WL.val (dx_pick rfl rfl rfl) rfl rfl ?_
                refine WL.val (dv_Fz (dx_neqB rfl Tryd.underlying4 rfl rfl) (by decide)) rfl rfl ?_
                refine WL.nil ?_
                refine hK612 ?_
                refine WC.condF rfl ?_
                refine WC.skip ?_
                refine hK26 ?_
                refine WC.region ?_
                refine WL.val (dx_move rfl rfl) rfl rfl ?_
                refine WL.val (dx_add (r := (st.i : Int) + 1) rfl rfl rfl (wrap64_id (by omega))) rfl rfl ?_
                refine WL.val (dx_assign rfl rfl) rfl rfl ?_
                refine WL.nil ?_
                replace hL := hL.less (fun x hx => (.tail _ (.tail _ hx)))
                replace h1 := h1.less (fun x hx => (.tail _ (.tail _ hx)))
                replace hM := hM.less (fun x hx => (.tail _ (.tail _ hx)))
                replace j577 := j577.less (fun x hx => (.tail _ (.tail _ hx)))
                exact hK21 ⟨st.i + 1, u576, nw, st.k, true, (if st.b = true then st.t else nw)⟩ ⟨(by show st.i + 1 ≤ acts.length; omega), hk', (by show 100 ≤ nw ∧ nw ≤ 100 + ((st.i + 1 : Nat) : Int) * 65535; omega), ht', hb', hB, hL, h1, hM, j577⟩ (by show acts.length - (st.i + 1) < acts.length - st.i; omega) (by repeat first | exact trivial | exact And.intro rfl trivial | refine And.intro rfl ?_ | refine And.intro (congrArg (fun z : Int => some (Value.int .i64 z)) (by omega)) ?_)
    ·
      replace c25 := of_decide_eq_false c25
      refine WC.exit ?_
      refine hK19 ?_
      refine WC.seq fun K613 hK613 => ?_
      refine WC.region ?_
      refine WL.val (dx_move rfl rfl) rfl rfl ?_
      refine WL.val (dx_eql rfl rfl rfl) rfl rfl ?_
      refine WL.val (dx_assign rfl rfl) rfl rfl ?_
      refine WL.nil ?_
      refine hK613 ?_
      refine WC.ret fun a_ ha_ => ?_
      exact hQ (cv_ret1 rfl (.tmp rfl) rfl hB ha_)

end Go.Proofs.YthllidchoodofaaDoor
namespace Go.Proofs.YthllidchoodofaaDoor
open Go.RowKit
set_option linter.unusedVariables false
set_option linter.unusedSimpArgs false
/-- The texts are as great as a memory bears. -/
def SzO (b : SesX) : Prop := b.sec.size ≤ 140737488355328 ∧ b.tok.size ≤ 140737488355328 ∧ b.whr.size ≤ 140737488355328
def SzZ (xs : List SesX) : Prop := ∀ b ∈ xs, SzO b
theorem SzZ.sub {xs ys : List SesX} (h : SzZ xs) (hs : ys.Sublist xs) : SzZ ys := fun b hb => h b (hs.mem hb)
theorem clash_eq {b r : SesX} {b1 b2 : Bool} (h1 : b1 = decide (b.sec = r.sec)) (h2 : b2 = (b1 && decide (b.med = r.med ∧ b.whr = r.whr))) : clashZ r b = (b2 || decide (b.tok = r.tok)) := by
  subst h1 h2
  rw [clash_comm]
  rfl
theorem clash_no {b r : SesX} {b1 b2 : Bool} (h1 : b1 = decide (b.sec = r.sec)) (h2 : b2 = (b1 && decide (b.med = r.med ∧ b.whr = r.whr))) (ha : ¬ b2 = true) (hc : ¬ b.tok = r.tok) : clashZ r b = false := by
  rw [clash_eq h1 h2, Bool.eq_false_iff.2 ha, decide_eq_false hc]
  rfl
theorem any_no {xs : List SesX} {r : SesX} {i : Nat} (h : ∀ m b, m < i → xs[m]? = some b → clashZ r b = false) : (xs.take i).any (clashZ r) = false := by
  refine List.any_eq_false.2 fun a ha => ?_
  obtain ⟨j, hj, rfl⟩ := List.getElem_of_mem ha
  rw [List.length_take] at hj
  rw [List.getElem_take, h j _ (by omega) (List.getElem?_eq_getElem (by omega))]
  decide
theorem any_yes {xs : List SesX} {r b : SesX} {i j : Nat} (hj : j < i) (hb : xs[j]? = some b) (h : clashZ r b = true) : (xs.take i).any (clashZ r) = true := by
  obtain ⟨hl, rfl⟩ := List.getElem?_eq_some_iff.1 hb
  refine List.any_eq_true.2 ⟨xs[j], ?_, h⟩
  rw [List.mem_iff_getElem]
  exact ⟨j, by rw [List.length_take]; omega, by rw [List.getElem_take]⟩
theorem live_yes {s : SesX} {now : Int} (h : now - s.since ≤ 86400) : liveZ now s = true := by
  unfold liveZ
  rw [decide_eq_false (by omega)]
  rfl
theorem live_no {s : SesX} {now : Int} (h : ¬ now - s.since ≤ 86400) : liveZ now s = false := by
  unfold liveZ
  rw [decide_eq_true (by omega)]
  rfl
theorem filt_yes {xs : List SesX} {now : Int} {i : Nat} {r : SesX} (h : xs[i]? = some r) (hl : now - r.since ≤ 86400) : (xs.take (i + 1)).filter (liveZ now) = (xs.take i).filter (liveZ now) ++ [r] := by
  rw [List.take_add_one, h, List.filter_append]
  simp only [Option.toList_some]
  rw [List.filter_cons, if_pos (live_yes hl)]
  rfl
theorem filt_no {xs : List SesX} {now : Int} {i : Nat} {r : SesX} (h : xs[i]? = some r) (hl : ¬ now - r.since ≤ 86400) : (xs.take (i + 1)).filter (liveZ now) = (xs.take i).filter (liveZ now) := by
  rw [List.take_add_one, h, List.filter_append]
  simp only [Option.toList_some]
  rw [List.filter_cons, if_neg (by rw [live_no hl]; decide)]
  simp
theorem filt_le (xs : List SesX) (now : Int) (i : Nat) : ((xs.take i).filter (liveZ now)).length ≤ xs.length := by
  have h1 := List.length_filter_le (liveZ now) (xs.take i)
  rw [List.length_take] at h1
  omega
theorem plP_eq {r wt : SesX} {now : Int} {b1 b2 : Bool} (h1 : b1 = decide (r.id = wt.id)) (h2 : b2 = (b1 && decide (r.sec = wt.sec))) : plP now wt r = (b2 && decide (now - r.since ≤ 86400)) := by
  subst h1 h2
  unfold plP
  have e : liveZ now r = decide (now - r.since ≤ 86400) := by
    by_cases h : now - r.since ≤ 86400
    · rw [live_yes h, decide_eq_true h]
    · rw [live_no h, decide_eq_false h]
  rw [e, Bool.and_assoc]
end Go.Proofs.YthllidchoodofaaDoor
namespace Go.Proofs.YthllidchoodofaaDoor
open Go.ChangeShapes Go.WideShapes Go.ChangeAt Go.RowKit
set_option linter.unusedVariables false
section
variable {P : Program} {H : Type} {enc : TypeId × Value → H} {W : World} {base : Nat} {sp : Nat → Bool} {held : Bool}
theorem rd_of_sliceD {α : Type} (en : α → List Value) (good : α → DataW H → Prop) {s : Nat} (hs : 0 < s) {t e : TypeId} {fuel : Nat} {cs : List Value} {x : DataW H × List MemPlace} (ht : P.underlying t = some (.slice e)) (hce : P.cellsOf e = s) (hl : ∀ a d, good a d → (en a).length = s)
    (hel : ∀ n cs x, DataW.trod enc P W base sp held n e cs = some x → ∃ a, cs = en a ∧ good a x.1) (h : DataW.trod enc P W base sp held fuel t cs = some x) : ∃ (v : Value) (xs : List α), cs = [v] ∧ RdF s [] W v (xs.map en) ∧ ∀ a ∈ xs, ∃ es sps d, x.1 = .slice es sps ∧ d ∈ es ∧ good a d := by
  rcases DataW.trod_slice ht h with ⟨rfl, _⟩ | ⟨a, len, cap, elems, rest, n, rfl, rfl, hxe, hb, hlc, hcm, hlen, hx, _⟩
  · exact ⟨_, [], rfl, RdF.nil hs, fun a ha => by cases ha⟩
  · obtain ⟨xs, hxl, hxs⟩ := choose_list (fun i (y : α) => (∃ d, d ∈ elems ∧ good y d.1) ∧ W.cells? base (a.add (i * s)) s = some (en y)) len (fun i hi => by
      have h1 := hx i hi
      rw [hce, List.getElem?_eq_getElem (by omega)] at h1
      obtain ⟨cs', h2, h3⟩ := Option.bind_eq_some_iff.1 h1
      obtain ⟨y, rfl, hg⟩ := hel n cs' _ h3
      exact ⟨y, ⟨_, List.getElem_mem _, hg⟩, h2⟩)
    have hgood : ∀ y ∈ xs, ∃ d, d ∈ elems ∧ good y d.1 := fun y hy => by
      obtain ⟨i, hi⟩ := List.getElem?_of_mem hy
      exact (hxs i y hi).1
    have hrl : ∀ r ∈ xs.map en, r.length = s := fun r hr => by
      obtain ⟨y, hy, rfl⟩ := List.mem_map.1 hr
      obtain ⟨d, _, hd⟩ := hgood y hy
      exact hl y _ hd
    refine ⟨_, xs, rfl, ⟨hs, hrl, some a, cap, by rw [List.length_map, hxl], by rw [List.length_map, hxl]; exact hlc, hcm, (fun e => by cases e), fun hn => ?_⟩, fun a ha => by
      obtain ⟨d, h1, h2⟩ := hgood a ha
      exact ⟨_, _, d.1, by rw [hxe], List.mem_map.2 ⟨d, h1, rfl⟩, h2⟩⟩
    have cellat : ∀ i y, xs[i]? = some y → ∀ j v, (en y)[j]? = some v → W.cell? ((a.add (i * s)).add j) = some v := fun i y hi j v hj => by
      have h2 := (hxs i y hi).2
      unfold World.cells? at h2
      split at h2
      · have hj' : j < s := by have := (List.getElem?_eq_some_iff.1 hj).1; obtain ⟨d, _, hd⟩ := (hxs i y hi).1; rw [hl y _ hd] at this; exact this
        have := mapM_some_get h2 j j (by simp [hj'])
        rw [this]; exact hj
      · cases h2
    have hne : 0 < xs.length := by
      rcases Nat.eq_zero_or_pos xs.length with h0 | h0
      · exact absurd (by rw [List.length_eq_zero_iff.1 h0]; rfl) hn
      · exact h0
    have hx0 : xs[0]? = some xs[0] := List.getElem?_eq_getElem hne
    have hspot : a.spot = none := by
      have hlen0 : 0 < (en xs[0]).length := by obtain ⟨d, _, hd⟩ := (hxs 0 _ hx0).1; rw [hl _ _ hd]; exact hs
      have := cellat 0 _ hx0 0 _ (List.getElem?_eq_getElem hlen0)
      have h3 := World.cell?_spot this
      have e0 : (a.add (0 * s)).add 0 = a := by simp [Addr.add]
      rw [e0] at h3
      exact h3
    obtain ⟨b, off, spot⟩ := a
    simp only at hspot
    subst hspot
    refine ⟨b, off, rfl, by simp, range_flat _ off hrl fun i r hi => ?_⟩
    rw [List.getElem?_map] at hi
    cases hy : xs[i]? with
    | none => rw [hy] at hi; cases hi
    | some y =>
      rw [hy] at hi
      cases hi
      intro j v hj
      have := cellat i y hy j v hj
      rw [addr_at, addr_at] at this
      exact this
theorem weights_all {e : TypeId} {n : Nat} {d : DataW H} : ∀ {es : List (DataW H)}, d ∈ es → n ∈ d.weights P e → n ∈ DataW.weightsAll P e es
  | x :: l, hd, hn => by
    rw [DataW.weightsAll]
    rcases List.mem_cons.1 hd with rfl | hd
    · exact List.mem_append_left _ hn
    · exact List.mem_append_right _ (weights_all hd hn)
theorem weights_slice {t e : TypeId} {n : Nat} {d : DataW H} {es sps : List (DataW H)} (ht : P.underlying t = some (.slice e)) (hd : d ∈ es) (hn : n ∈ d.weights P e) : n ∈ (DataW.slice es sps).weights P t := by
  rw [DataW.weights, ht]
  exact List.mem_cons_of_mem _ (List.mem_append_left _ (weights_all hd hn))
end
end Go.Proofs.YthllidchoodofaaDoor
namespace Go.Proofs.YthllidchoodofaaDoor
open Go.ChangeShapes Go.WideShapes Go.ChangeAt Go.RowKit
set_option linter.unusedVariables false
set_option maxRecDepth 8000
theorem own : ownKnob Tryd.prog.godebug = none := by kernel_rfl
theorem laidOut : laidOutB Tryd.prog = true := by kernel_rfl
theorem cB : Tryd.prog.cellsOf 26 = 10 := by kernel_rfl
theorem cA : Tryd.prog.cellsOf 24 = 2 := by kernel_rfl
theorem cT : Tryd.prog.cellsOf 9 = 1 := by kernel_rfl
theorem cI : Tryd.prog.cellsOf 3 = 1 := by kernel_rfl
theorem cL : Tryd.prog.cellsOf 4 = 1 := by kernel_rfl
section
variable {H : Type} {enc : TypeId × Value → H} {W : World} {base : Nat} {sp : Nat → Bool} {held : Bool}
theorem el_A (n : Nat) (cs : List Value) (x : DataW H × List MemPlace) (h : DataW.trod enc Tryd.prog W base sp held n 24 cs = some x) : ∃ a b : ByteArray, cs = [.string a, .string b] ∧ b.size ∈ x.1.weights Tryd.prog 24 := by
  obtain ⟨y0, y1, m, rfl, hl, h0, h1⟩ := trod_struct2 Tryd.underlying24 h
  rw [cA] at hl
  match cs, hl with
  | [c, d], _ =>
    obtain ⟨a, ha, _, _⟩ := DataW.trod_string Tryd.underlying9 h0
    obtain ⟨b, hb, rfl, _⟩ := DataW.trod_string Tryd.underlying9 h1
    simp only [cT] at ha hb
    simp at ha hb
    exact ⟨a, b, by rw [ha, hb], by simp [DataW.weights, DataW.weightsEach, Tryd.underlying24]⟩
theorem el_Z (n : Nat) (cs : List Value) (x : DataW H × List MemPlace) (h : DataW.trod enc Tryd.prog W base sp held n 26 cs = some x) : ∃ b : SesX, cs = encZ b ∧ (b.sec.size ∈ x.1.weights Tryd.prog 26 ∧ b.tok.size ∈ x.1.weights Tryd.prog 26 ∧ b.whr.size ∈ x.1.weights Tryd.prog 26) := by
  obtain ⟨xs, m, _, rfl, hl, hlen, hf⟩ := DataW.trod_struct Tryd.underlying26 h
  rw [cB] at hl
  match xs, hlen, cs, hl with
  | [y0, y1, y2, y3, y4, y5, y6, y7, y8], _, [c0, c1, c2, c3, c4, c5, c6, c7, c8, c9], _ =>
    have h0 : DataW.trod enc Tryd.prog W base sp held m 3 (([c0, c1, c2, c3, c4, c5, c6, c7, c8, c9].drop 0).take (Tryd.prog.cellsOf 3)) = some y0 := hf 0 _ rfl
    have h1 : DataW.trod enc Tryd.prog W base sp held m 9 (([c0, c1, c2, c3, c4, c5, c6, c7, c8, c9].drop 1).take (Tryd.prog.cellsOf 9)) = some y1 := hf 1 _ rfl
    have h2 : DataW.trod enc Tryd.prog W base sp held m 24 (([c0, c1, c2, c3, c4, c5, c6, c7, c8, c9].drop 2).take (Tryd.prog.cellsOf 24)) = some y2 := hf 2 _ rfl
    have h3 : DataW.trod enc Tryd.prog W base sp held m 9 (([c0, c1, c2, c3, c4, c5, c6, c7, c8, c9].drop 4).take (Tryd.prog.cellsOf 9)) = some y3 := hf 3 _ rfl
    have h4 : DataW.trod enc Tryd.prog W base sp held m 3 (([c0, c1, c2, c3, c4, c5, c6, c7, c8, c9].drop 5).take (Tryd.prog.cellsOf 3)) = some y4 := hf 4 _ rfl
    have h5 : DataW.trod enc Tryd.prog W base sp held m 3 (([c0, c1, c2, c3, c4, c5, c6, c7, c8, c9].drop 6).take (Tryd.prog.cellsOf 3)) = some y5 := hf 5 _ rfl
    have h6 : DataW.trod enc Tryd.prog W base sp held m 3 (([c0, c1, c2, c3, c4, c5, c6, c7, c8, c9].drop 7).take (Tryd.prog.cellsOf 3)) = some y6 := hf 6 _ rfl
    have h7 : DataW.trod enc Tryd.prog W base sp held m 4 (([c0, c1, c2, c3, c4, c5, c6, c7, c8, c9].drop 8).take (Tryd.prog.cellsOf 4)) = some y7 := hf 7 _ rfl
    have h8 : DataW.trod enc Tryd.prog W base sp held m 3 (([c0, c1, c2, c3, c4, c5, c6, c7, c8, c9].drop 9).take (Tryd.prog.cellsOf 3)) = some y8 := hf 8 _ rfl
    obtain ⟨a0, e0, _⟩ := DataW.trod_int Tryd.underlying3 h0
    obtain ⟨a1, e1, q1, _⟩ := DataW.trod_string Tryd.underlying9 h1
    have w1 : a1.size ∈ y1.1.weights Tryd.prog 9 := by rw [q1]; simp [DataW.weights]
    obtain ⟨a2, b2, e2, hw⟩ := el_A m _ _ h2
    obtain ⟨a3, e3, q3, _⟩ := DataW.trod_string Tryd.underlying9 h3
    have w3 : a3.size ∈ y3.1.weights Tryd.prog 9 := by rw [q3]; simp [DataW.weights]
    obtain ⟨a4, e4, _⟩ := DataW.trod_int Tryd.underlying3 h4
    obtain ⟨a5, e5, _⟩ := DataW.trod_int Tryd.underlying3 h5
    obtain ⟨a6, e6, _⟩ := DataW.trod_int Tryd.underlying3 h6
    obtain ⟨a7, e7, _⟩ := DataW.trod_bool Tryd.underlying4 h7
    obtain ⟨a8, e8, _⟩ := DataW.trod_int Tryd.underlying3 h8
    simp only [cA, cT, cI, cL] at e0 e1 e2 e3 e4 e5 e6 e7 e8
    simp at e0 e1 e2 e3 e4 e5 e6 e7 e8
    exact ⟨⟨a0, a1, a2, b2, a3, a4, a5, a6, a7, a8⟩, by simp [encZ, e0, e1, e2, e3, e4, e5, e6, e7, e8], by
      simp only [DataW.weights, Tryd.underlying26]
      simp only [DataW.weightsEach, List.map_cons, List.mem_append]
      exact ⟨.inr (.inl w1), .inr (.inr (.inr (.inl w3))), .inr (.inr (.inl hw))⟩⟩
theorem open_ses {v : Value} {d : DataW H} {p : List MemPlace} (h0 : DataW.Trod enc Tryd.prog W base sp held 26 v d p) : ∃ b : SesX, v = .agg (encZ b).toArray ∧ (b.sec.size ∈ d.weights Tryd.prog 26 ∧ b.tok.size ∈ d.weights Tryd.prog 26 ∧ b.whr.size ∈ d.weights Tryd.prog 26) := by
  obtain ⟨fuel, hf⟩ := h0
  obtain ⟨b, e, hw⟩ := el_Z fuel _ _ hf
  cases v with
  | agg cs =>
    simp only [Value.cells] at e
    exact ⟨b, by rw [← e], hw⟩
  | _ => simp [Value.cells, encZ] at e
theorem open_sess {r : Reach} {b0 : Nat} {v : Value} {d : DataW H} {p : List MemPlace} (hv : Value.okWide Tryd.prog W r b0 22 v) (h : DataW.Trod enc Tryd.prog W base sp held 22 v d p) (hw : ∀ n ∈ d.weights Tryd.prog 22, n ≤ reachBytes) : ∃ xs : List SesX, RdF 10 [] W v (xs.map encZ) ∧ SzZ xs := by
  obtain ⟨a, len, cap, rfl⟩ := okWide_slice Tryd.underlying22 hv
  obtain ⟨fuel, hf⟩ := h
  obtain ⟨v, xs, e, r, g⟩ := rd_of_sliceD (s := 10) encZ (fun b d => b.sec.size ∈ d.weights Tryd.prog 26 ∧ b.tok.size ∈ d.weights Tryd.prog 26 ∧ b.whr.size ∈ d.weights Tryd.prog 26) (by decide) Tryd.underlying22 cB (fun _ _ _ => rfl) el_Z hf
  simp [Value.cells] at e
  subst e
  refine ⟨xs, r, fun b hb => ?_⟩
  obtain ⟨es, sps, d', h1, h2, h3⟩ := g b hb
  have key : ∀ n ∈ d'.weights Tryd.prog 26, n ≤ 140737488355328 := fun n hn => by
    have := hw n (by simp only at h1; rw [h1]; exact weights_slice Tryd.underlying22 h2 hn)
    unfold reachBytes at this
    omega
  exact ⟨key _ h3.1, key _ h3.2.1, key _ h3.2.2⟩
end
end Go.Proofs.YthllidchoodofaaDoor
namespace Go.Proofs.YthllidchoodofaaDoor
open Go.ChangeShapes Go.WideShapes Go.ChangeAt Go.RowKit
set_option linter.unusedVariables false
set_option maxRecDepth 8000
theorem u16_one {n : Int} (h : (Lit.int .u16 n).wf = true) : 0 ≤ n ∧ n ≤ 65535 := by
  simpa [Lit.wf, IntKind.min, IntKind.max, IntKind.signed, IntKind.bits] using h
theorem cU16 : Tryd.prog.cellsOf 36 = 1 := by kernel_rfl
section
variable {H : Type} {enc : TypeId × Value → H} {W : World} {base : Nat} {sp : Nat → Bool} {held : Bool}
theorem el_Y (n : Nat) (cs : List Value) (x : DataW H × List MemPlace) (h : DataW.trod enc Tryd.prog W base sp held n 38 cs = some x) : ∃ p : Int × Bool × Bool, cs = encY p ∧ (0 ≤ p.1 ∧ p.1 ≤ 65535) := by
  obtain ⟨y0, y1, y2, m, _, hl, h0, h1, h2⟩ := Go.Deep.trod_struct3 Tryd.underlying38 h
  rw [show Tryd.prog.cellsOf 38 = 3 by kernel_rfl] at hl
  match cs, hl with
  | [c, d, e], _ =>
    obtain ⟨a, ha, _, wa⟩ := DataW.trod_int Tryd.underlying36 h0
    obtain ⟨b, hb, _⟩ := DataW.trod_bool Tryd.underlying4 h1
    obtain ⟨g, hg, _⟩ := DataW.trod_bool Tryd.underlying4 h2
    simp only [cU16, cL] at ha hb hg
    simp at ha hb hg
    exact ⟨(a, b, g), by simp [encY, ha, hb, hg], u16_one wa⟩
theorem open_trys {r : Reach} {b0 : Nat} {v : Value} {d : DataW H} {p : List MemPlace} (hv : Value.okWide Tryd.prog W r b0 34 v) (h : DataW.Trod enc Tryd.prog W base sp held 34 v d p) : ∃ fs : List (Int × Bool × Bool), RdF 3 [] W v (fs.map encY) ∧ ∀ f ∈ fs, 0 ≤ f.1 ∧ f.1 ≤ 65535 := by
  obtain ⟨a, len, cap, rfl⟩ := okWide_slice Tryd.underlying34 hv
  obtain ⟨fuel, hf⟩ := h
  obtain ⟨v, fs, e, r, g⟩ := rd_of_slice (s := 3) encY (fun f => 0 ≤ f.1 ∧ f.1 ≤ 65535) (by decide) Tryd.underlying34 (by kernel_rfl) (fun a _ => rfl) el_Y hf
  simp [Value.cells] at e
  subst e
  exact ⟨fs, r, g⟩
end
end Go.Proofs.YthllidchoodofaaDoor

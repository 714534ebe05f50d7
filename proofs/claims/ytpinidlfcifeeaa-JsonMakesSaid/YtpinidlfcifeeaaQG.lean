/- The reference's Make, walked. The laws of Make. -/
import Derived.Test.YtpinidlfcifeeaaQF
namespace Go.Proofs.Ytpinidlfcifeeaa
open Go.RowKit
set_option linter.unusedVariables false
set_option linter.unusedSimpArgs false
set_option maxRecDepth 8000
set_option maxHeartbeats 2000000

theorem refRight_e (n : Nat) (t : Tr) (w : World) (L : List Nat) (hL : LL L w) (ht : RdT (n + 1) L w t) (hz : SzT 1000000 (n + 1) t) : CV Try.prog 19 [.agg #[.int .i64 t.kind, .int .i64 t.num, .string t.text, t.nv, t.iv]] w fun v W => v = .bool (rightJ upB 12 t.er) := rRight_v n t w L hL ht hz
theorem refDeep_e (n : Nat) (t : Tr) (w : World) (L : List Nat) (hL : LL L w) (ht : RdT (n + 1) L w t) : CV Try.prog 21 [.agg #[.int .i64 t.kind, .int .i64 t.num, .string t.text, t.nv, t.iv]] w fun v W => v = .int .i64 (deepJ 13 t.er : Nat) := rDeep_v n t w L hL ht
theorem refGet_x (n : Nat) (t : Tr) (nm : ByteArray) (w : World) (L : List Nat) (hL : LL L w) (h : RdT (n + 1) L w t) : CV Try.prog 18 [.agg #[.int .i64 t.kind, .int .i64 t.num, .string t.text, t.nv, t.iv], .string nm] w fun v W => v = .tuple #[.agg #[.int .i64 ((getT t nm).1.kind), .int .i64 ((getT t nm).1.num), .string ((getT t nm).1.text), (getT t nm).1.nv, (getT t nm).1.iv], .bool (getT t nm).2] := rGet_v n t nm w L hL h
set_option maxHeartbeats 1000000 in
theorem refMake_v (n : Nat) (ps : List PT) (gv : Value) (w : World) (L : List Nat) (hL : LL L w) (hgv : RdF 6 L w gv (ps.map encP)) (hps : RdTs (n + 1) L w (ps.map Prod.snd))  (hlen : ps.length ≤ 1000000) (hzs : ∀ p ∈ ps, SzT 1000000 (n + 1) p.2 ∧ p.1.size ≤ 1000000) : CV Try.prog 30 [gv] w fun v W => (∃ t m, v = .tuple #[.agg #[.int .i64 t.kind, .int .i64 t.num, .string t.text, t.nv, t.iv], .int .i64 0] ∧ makeJ (ps.map erP) = .ok t.er ∧ RdT (m + 1) L W t) ∨ (∃ e, v = .tuple #[.agg #[.int .i64 0, .int .i64 0, .string ⟨#[]⟩, .slice none 0 0, .slice none 0 0], .int .i64 e] ∧ e ≠ 0 ∧ makeJ (ps.map erP) = .error e) := by
 refine cv_enter (N := 80) (f := [(0, gv)]) Try.func30 rfl rfl rfl rfl fun Q hQ hE => ?_
 have hB := Below.refl w.heap.size w
 have hgvm : ps.length ≤ maxLen := by have := hgv.len; rwa [List.length_map] at this
 unfold maxLen at hgvm
 refine Sq fun K1 hK1 => (Rg ?_)
 refine Ge (dx_alloc rfl ty_zero_26 rfl) rfl rfl ?_
 rintro _ W2 ⟨rfl, k3, b4, z5⟩
 have l6 := hB.size
 replace hgv := hgv.more b4 (Nat.le_refl _)
 replace hps := hps.more b4 (Nat.le_refl _)
 replace hB := below_then hB b4
 replace hL := LL.more hL z5
 refine Pu rfl (Ni (hK1 (Sq fun K7 hK7 => (Sq fun K8 hK8 => (Rg (Pu rfl (Ni ?_)))))))
 refine hK8 (WC.block ?_)
 refine WC.loop (fun (i : Nat) => [(0, gv), (2, .pointer (some ⟨w.heap.size, 0, none⟩)), (4, .int .i64 (i : Int))]) (fun (i : Nat) W => i ≤ ps.length ∧ (∀ j p, j < i → ps[j]? = some p → okP p = true) ∧ Below w.heap.size w W ∧ LL (w.heap.size :: L) W ∧ RdF 6 (w.heap.size :: L) W gv (ps.map encP) ∧ RdTs (n + 1) (w.heap.size :: L) W (ps.map Prod.snd) ∧ Blk W w.heap.size [.int .i64 0, .int .i64 0, .string ⟨#[]⟩, .slice none 0 0, .slice none 0 0]) (fun (i : Nat) => ps.length - i) 0 (by repeat first | exact trivial | exact And.intro rfl trivial | refine And.intro rfl ?_ | refine And.intro (congrArg (fun z : Int => some (Value.int .i64 z)) (by omega)) ?_) ⟨(Nat.zero_le _), (fun j p h => by omega), hB, hL, hgv, hps, k3⟩ ?_
 clear hgv hps k3 hB hL
 rintro K9 i W10 ⟨hi, hall, hB, hL, hgv, hps, k3⟩ hK9
 refine Sq fun K11 hK11 => (Sq fun K12 hK12 => (Rg (Pu rfl (Pu rfl (Va (dx_lenFM rfl ty_slice_40 rfl hgv) rfl rfl (Va (dx_lss rfl rfl rfl) rfl rfl (Ni ?_)))))))
 refine hK12 ?_
 refine WC.cond rfl (fun c13 => ?_) (fun c13 => ?_)
 ·
  replace c13 := dT c13
  refine WC.skip (hK11 (Sq fun K14 hK14 => (WC.block (Sq fun K15 hK15 => (Rg (Pu rfl (Pu rfl ?_)))))))
  obtain ⟨r16, e17⟩ : ∃ x, ps[i]? = some x := ⟨_, List.getElem?_eq_getElem (by omega)⟩
  have hzr16 := (hzs r16 (List.mem_of_getElem? e17)).2
  refine Ge (dx_idxF i rfl ty_slice_40 rfl rfl hgv (by omega) (at_mapX e17)) rfl rfl ?_
  rintro u18 _ ⟨rfl, p19⟩
  refine Ge (dx_fldP 5 rfl ty_fld_43_1_1 rfl p19 (cs' := [.int .i64 r16.2.kind, .int .i64 r16.2.num, .string r16.2.text, r16.2.nv, r16.2.iv]) rfl (Nat.succ_pos _)) rfl rfl ?_
  rintro u20 _ ⟨rfl, p21⟩
  refine Va (dx_loadPN rfl ty_agg_26_5 rfl p21 rfl) rfl rfl ?_
  refine Ge (dx_cv rfl Try.func19 rfl rfl rfl (refRight_e n r16.2 W10 _ hL (hps r16.2 (List.mem_map.2 ⟨r16, List.mem_of_getElem? e17, rfl⟩)) (hzs r16 (List.mem_of_getElem? e17)).1)) rfl rfl ?_
  rintro _ W23 ⟨rfl, b22⟩
  replace hgv := hgv.below b22
  replace hps := hps.below b22
  replace k3 := k3.below b22
  replace hB := below_then hB b22
  replace hL := LL.below hL b22
  refine Va (dx_not rfl rfl) rfl rfl (Pu rfl ?_)
  refine WL.split 23 rfl (fun g24 => ?_) (fun g24 => ?_)
  ·
   replace g24 := bnot_t g24
   refine Of rfl (Of rfl (Of rfl (Of rfl (Of rfl (Of rfl (Of rfl (Of rfl ?_)))))))
   refine Pu rfl (Ni (hK15 (WC.condT rfl (Sq fun K25 hK25 => (Rg (Va (dx_build rfl rfl (built_of_O (cs := zV) (by kernel_rfl) oc_nil)) rfl rfl ?_))))))
   refine WL.do (dx_store (cs' := zV) (vs := zV) rfl ty_size_26_5 rfl rfl rfl (oc_cons rfl (oc_cons rfl (oc_cons rfl (oc_cons rfl (oc_cons rfl oc_nil))))) k3 rfl (Nat.le_of_ble_eq_true rfl) rfl) rfl ?_
   rintro _ W26 ⟨k28, o27⟩
   clear k3
   replace hB := o27.below hB l6
   refine Pu rfl (Ni (hK25 ?_))
   exact WC.ret fun a_ ha_ => hQ (cv_ret2 rfl (.agg rfl ty_agg_26_5 k28.range rfl) (.tmp rfl) (.inr ⟨1, rfl, by decide, make_1 e17 (by unfold okP; simp_all)⟩) hB ha_)
  ·
   replace g24 := bnot_f g24
   refine Pu rfl (Pu rfl ?_)
   refine Ge (dx_idxF i rfl ty_slice_40 rfl rfl hgv (by omega) (at_mapX e17)) rfl rfl ?_
   rintro u29 _ ⟨rfl, p30⟩
   refine Ge (dx_fldP 1 rfl ty_fld_43_0_0 rfl p30 (cs' := [.string r16.1]) rfl (Nat.succ_pos _)) rfl rfl ?_
   rintro u31 _ ⟨rfl, p32⟩
   refine Va (dx_loadP rfl ty_one_9 rfl p32) rfl rfl ?_
   refine Ge (dx_sb (L := w.heap.size :: L) rfl Try.underlying9 Try.underlying50 Try.underlying5 rfl hL (by unfold maxLen; omega)) rfl rfl ?_
   rintro u33 W34 ⟨k35, b36⟩
   replace hgv := hgv.below b36
   replace hps := hps.below b36
   replace k3 := k3.below b36
   replace hB := below_then hB b36
   replace hL := LL.below hL b36
   refine Ge (dx_cv rfl Try.func36 rfl rfl rfl (refUp_v r16.1 _ W34 _ hL k35 (hzs r16 (List.mem_of_getElem? e17)).2)) rfl rfl ?_
   rintro _ W38 ⟨rfl, b37⟩
   replace hgv := hgv.below b37
   replace hps := hps.below b37
   replace k3 := k3.below b37
   replace hB := below_then hB b37
   replace hL := LL.below hL b37
   refine Va (dx_not rfl rfl) rfl rfl (Pu rfl (Ni (hK15 ?_)))
   refine WC.cond rfl (fun c39 => ?_) (fun c39 => ?_)
   ·
    replace c39 := bnot_t c39
    refine Sq fun K40 hK40 => (Rg (Va (dx_build rfl rfl (built_of_O (cs := zV) (by kernel_rfl) oc_nil)) rfl rfl ?_))
    refine WL.do (dx_store (cs' := zV) (vs := zV) rfl ty_size_26_5 rfl rfl rfl (oc_cons rfl (oc_cons rfl (oc_cons rfl (oc_cons rfl (oc_cons rfl oc_nil))))) k3 rfl (Nat.le_of_ble_eq_true rfl) rfl) rfl ?_
    rintro _ W41 ⟨k43, o42⟩
    clear k3
    replace hB := o42.below hB l6
    refine Pu rfl (Ni (hK40 ?_))
    exact WC.ret fun a_ ha_ => hQ (cv_ret2 rfl (.agg rfl ty_agg_26_5 k43.range rfl) (.tmp rfl) (.inr ⟨1, rfl, by decide, make_1 e17 (by unfold okP; simp_all)⟩) hB ha_)
   ·
    replace c39 := bnot_f c39
    refine WC.skip (hK14 (Rg (Pu rfl (Va (dx_add (r := (i : Int) + 1) rfl rfl rfl (wrap64_id (by omega))) rfl rfl (Pu rfl (Ni ?_))))))
    exact hK9 (i + 1) ⟨(by omega), (fun j p hj hp => by rcases Nat.lt_or_ge j i with h_ | h_; exact hall j p h_ hp; (obtain rfl : j = i := by omega); rw [e17] at hp; cases hp; unfold okP; simp_all), hB, hL, hgv, hps, k3⟩ (by omega) (by repeat first | exact trivial | exact And.intro rfl trivial | refine And.intro rfl ?_ | refine And.intro (congrArg (fun z : Int => some (Value.int .i64 z)) (by omega)) ?_)
 ·
  replace c13 := dF c13
  refine WC.exit ?_
  refine hK7 (Sq fun K44 hK44 => (Rg (Va (dx_build rfl rfl (built_of_O (cs := [.int .i64 6, .int .i64 0, .string ⟨#[]⟩, .slice none 0 0, .slice none 0 0]) (by kernel_rfl) (oc_cons rfl oc_nil))) rfl rfl ?_)))
  refine Ge (dx_alloc rfl ty_zero_26 rfl) rfl rfl ?_
  rintro _ W45 ⟨rfl, k46, b47, z48⟩
  have n49 : w.heap.size ≠ W10.heap.size := Nat.ne_of_lt k3.lt
  have l50 := hB.size
  replace hgv := hgv.more b47 (Nat.le_refl _)
  replace hps := hps.more b47 (Nat.le_refl _)
  replace k3 := k3.below b47
  replace hB := below_then hB b47
  replace hL := LL.more hL z48
  refine WL.do (dx_store (cs' := [.int .i64 6, .int .i64 0, .string ⟨#[]⟩, .slice none 0 0, .slice none 0 0]) (vs := [.int .i64 6, .int .i64 0, .string ⟨#[]⟩, .slice none 0 0, .slice none 0 0]) rfl ty_size_26_5 rfl rfl rfl (oc_cons rfl (oc_cons rfl (oc_cons rfl (oc_cons rfl (oc_cons rfl oc_nil))))) k46 rfl (Nat.le_of_ble_eq_true rfl) rfl) rfl ?_
  rintro _ W51 ⟨k53, o52⟩
  replace k3 := k3.other o52 n49
  clear k46
  replace hgv := hgv.only o52 (.head _)
  replace hps := hps.only o52 (.head _)
  replace hB := o52.below hB l50
  replace hL := LL.only hL o52
  refine Ni (hK44 (Sq fun K54 hK54 => (Sq fun K55 hK55 => (Rg (Pu rfl (Ni (hK55 ?_)))))))
  refine WC.block ?_
  have hall1 : ∀ j p, j < ps.length → ps[j]? = some p → okP p = true := fun j p h => hall j p (by omega)
  have htb : RdT (n + 2) (W10.heap.size :: w.heap.size :: L) W51 (tNil 6) := tNil_rd _ _ _ _
  refine WC.loop3 (fun (i : Nat) (tb : Tr) (zs : List NJ) => [(0, gv), (2, .pointer (some ⟨w.heap.size, 0, none⟩)), (5, .pointer (some ⟨W10.heap.size, 0, none⟩)), (6, .int .i64 (i : Int))]) (fun (i : Nat) (tb : Tr) (zs : List NJ) W => i ≤ ps.length ∧ ObT tb ∧ tb.names.length ≤ i ∧ tb.names = zs.map Prod.fst ∧ tb.items.map Tr.er = zs.map Prod.snd ∧ foldZ (ps.map erP) [] = foldZ ((ps.map erP).drop i) zs ∧ Below w.heap.size w W ∧ LL (W10.heap.size :: w.heap.size :: L) W ∧ RdF 6 (W10.heap.size :: w.heap.size :: L) W gv (ps.map encP) ∧ RdTs (n + 1) (W10.heap.size :: w.heap.size :: L) W (ps.map Prod.snd) ∧ RdT (n + 2) (W10.heap.size :: w.heap.size :: L) W tb ∧ Blk W w.heap.size [.int .i64 0, .int .i64 0, .string ⟨#[]⟩, .slice none 0 0, .slice none 0 0] ∧ Blk W W10.heap.size [.int .i64 tb.kind, .int .i64 tb.num, .string tb.text, tb.nv, tb.iv]) (fun (i : Nat) (tb : Tr) (zs : List NJ) => ps.length - i) 0 (tNil 6) [] (by repeat first | exact trivial | exact And.intro rfl trivial | refine And.intro rfl ?_ | refine And.intro (congrArg (fun z : Int => some (Value.int .i64 z)) (by omega)) ?_) ⟨(Nat.zero_le _), obT_nil, (Nat.zero_le _), rfl, rfl, rfl, hB, hL, hgv, hps, htb, k3, k53⟩ ?_
  clear hgv hps htb k3 k53 hB hL
  rintro K56 i tb zs W57 ⟨hi, hob, hnl, hzn, hzt, hf, hB, hL, hgv, hps, htb, k3, k53⟩ hK56
  refine Sq fun K58 hK58 => (Sq fun K59 hK59 => (Rg (Pu rfl (Pu rfl (Va (dx_lenFM rfl ty_slice_40 rfl hgv) rfl rfl (Va (dx_lss rfl rfl rfl) rfl rfl (Ni ?_)))))))
  refine hK59 ?_
  refine WC.cond rfl (fun c60 => ?_) (fun c60 => ?_)
  ·
   replace c60 := dT c60
   refine WC.skip (hK58 (Sq fun K61 hK61 => (WC.block (Sq fun K62 hK62 => ?_))))
   obtain ⟨r63, e64⟩ : ∃ x, ps[i]? = some x := ⟨_, List.getElem?_eq_getElem (by omega)⟩
   have hzr63 := (hzs r63 (List.mem_of_getElem? e64)).2
   have hga : RdT (n + 2) (W10.heap.size :: w.heap.size :: L) W57 (getT tb r63.1).1 := getT_rd htb _
   refine WC.drawR 12 11 10 7 (fun u W => NewT W57.heap.size 26 5 u W) (fun u W => NewP W57.heap.size 26 [.int .i64 ((getT tb r63.1).1.kind), .int .i64 ((getT tb r63.1).1.num), .string ((getT tb r63.1).1.text), (getT tb r63.1).1.nv, (getT tb r63.1).1.iv] u W) (WrT W57.heap.size 26 5) [(some 42, .is (.agg #[.int .i64 tb.kind, .int .i64 tb.num, .string tb.text, tb.nv, tb.iv])), (some 43, .is (gv)), (some 44, .is (.int .i64 (i : Int))), (some 45, .by fun u W => PtB W57.heap.size (W10.heap.size :: w.heap.size :: L) W u (encP r63)), (some 46, .by fun u W => PtB W57.heap.size (W10.heap.size :: w.heap.size :: L) W u [.string r63.1]), (some 47, .is (.string r63.1)), (some 48, .is (.tuple #[.agg #[.int .i64 ((getT tb r63.1).1.kind), .int .i64 ((getT tb r63.1).1.num), .string ((getT tb r63.1).1.text), (getT tb r63.1).1.nv, (getT tb r63.1).1.iv], .bool ((getT tb r63.1).2)])), (some 41, .is (.tuple #[.agg #[.int .i64 ((getT tb r63.1).1.kind), .int .i64 ((getT tb r63.1).1.num), .string ((getT tb r63.1).1.text), (getT tb r63.1).1.nv, (getT tb r63.1).1.iv], .bool ((getT tb r63.1).2)])), (some 49, .is (.agg #[.int .i64 ((getT tb r63.1).1.kind), .int .i64 ((getT tb r63.1).1.num), .string ((getT tb r63.1).1.text), (getT tb r63.1).1.nv, (getT tb r63.1).1.iv])), (some 50, .is (.bool ((getT tb r63.1).2))), (some 7, .by fun u W => NewT W57.heap.size 26 5 u W), (none, .by fun _ _ => True)] [[], [], [], [1, 2], [3], [4], [0, 5], [6], [7], [7], [], [10, 8, 6, 0, 1, 2, 3, 4, 5, 6, 7, 8, 10]] (by kernel_rfl) (by kernel_rfl) (by kernel_rfl) (by kernel_rfl) (by kernel_rfl) (by kernel_rfl) (by kernel_rfl) ⟨fun _ _ _ hb h => h.below hb, fun _ _ _ hb h => h.below hb, fun _ _ _ hb h => h.below hb, fun _ _ _ _ h => h, trivial⟩ rfl rfl rfl (by decide) (by decide) ⟨fun _ _ _ hw h => h.wr hw, fun _ _ _ hw h => h.wr hw, fun _ _ _ hw h => h.wr hw, fun _ _ _ _ h => h, trivial⟩ (fun _ _ _ hb h => h.below hb) (fun _ _ hb hw => hw.below hb) ?_ ?_
   ·
    refine DStepsR.cons (by decide) (fun Wd hd => ?_) ?_
    ·
     have k53 := k53.below hd
     exact Dd (dx_loadN rfl ty_agg_26_5 rfl k53.range rfl) rfl
    refine DStepsR.cons (by decide) (fun Wd hd => ?_) ?_
    ·
     exact Dd (dx_move rfl rfl) rfl
    refine DStepsR.cons (by decide) (fun Wd hd => ?_) ?_
    ·
     exact Dd (dx_move rfl rfl) rfl
    refine DStepsR.cons (by decide) (fun Wd hd => ?_) ?_
    ·
     have zhgv := hgv
     exact (dx_idxB i rfl ty_slice_40 rfl rfl zhgv hd (by omega) (at_mapX e64)).mono (fun v W' h => ⟨by rw [← h.1]; exact Below.refl _ _, by rw [← h.1]; exact h.2⟩)
    refine DStepsR.cons (by decide) (fun Wd hd => ?_) ?_
    ·
     intro u10_3 p10_3
     exact (dx_fldB 1 rfl ty_fld_43_0_0 rfl p10_3 (cs' := [.string r63.1]) rfl (Nat.succ_pos _)).mono (fun v W' h => ⟨by rw [← h.1]; exact Below.refl _ _, by rw [← h.1]; exact h.2⟩)
    refine DStepsR.cons (by decide) (fun Wd hd => ?_) ?_
    ·
     intro u10_4 p10_4
     exact Dd (dx_loadP rfl ty_one_9 rfl p10_4.ptr) rfl
    refine DStepsR.cons (by decide) (fun Wd hd => ?_) ?_
    ·
     have htb := htb.below hd
     exact DR.mono (dx_cv rfl Try.func18 rfl rfl rfl (refGet_x (n + 1) tb r63.1 Wd _ (LL.below hL hd) htb)) (fun v W' ⟨h, hb⟩ => ⟨hb, (by rw [h]; exact rfl)⟩)
    refine DStepsR.cons (by decide) (fun Wd hd => ?_) ?_
    ·
     exact Dd (dx_move rfl rfl) rfl
    refine DStepsR.cons (by decide) (fun Wd hd => ?_) ?_
    ·
     exact Dd (dx_extract rfl rfl rfl) rfl
    refine DStepsR.cons (by decide) (fun Wd hd => ?_) ?_
    ·
     exact Dd (dx_extract rfl rfl rfl) rfl
    refine DStepsR.cons (by decide) (fun Wd hd => ?_) ?_
    ·
     exact (dx_allocP (cs := zV) rfl ty_zero_26 rfl).mono (fun v W' h => ⟨h.1, (h.2 hd).newT rfl⟩)
    refine DStepsR.hit (fun Wd hd ut hut => ?_) ?_
    ·
     intro u10_3 p10_3 u10_4 p10_4
     exact dx_storeT rfl ty_size_26_5 rfl hut rfl rfl (oc_cons rfl (oc_cons rfl (oc_cons rfl (oc_cons (hga.1).one (oc_cons (hga.2.1).one oc_nil))))) rfl
    exact trivial
   ·
    intro W65 b66
    rintro _ - ⟨B10_10, rfl, q10_10, t10_10⟩
    have k10_10 := t10_10.blk
    intro u10_3 p10_3
    intro u10_4 p10_4
    intro _ _
    replace hgv := hgv.more b66 q10_10
    replace hps := hps.more b66 q10_10
    replace htb := htb.more b66 q10_10
    replace k3 := k3.below b66
    replace k53 := k53.below b66
    have l69 := Nat.le_trans hB.size q10_10
    replace hB := below_then hB b66
    replace hL := LL.below hL b66
    replace hL := LL.cons hL k10_10.lt
    refine Pu rfl (Ni (hK62 (Sq fun K70 hK70 => (Sq fun K71 hK71 => (Rg (Pu rfl (Ni ?_)))))))
    refine hK71 ?_
    refine WC.cond rfl (fun c72 => ?_) (fun c72 => ?_)
    ·
     refine Sq fun K73 hK73 => (Rg (Va (dx_build rfl rfl (built_of_O (cs := zV) (by kernel_rfl) oc_nil)) rfl rfl ?_))
     refine WL.do (dx_store (cs' := zV) (vs := zV) rfl ty_size_26_5 rfl rfl rfl (oc_cons rfl (oc_cons rfl (oc_cons rfl (oc_cons rfl (oc_cons rfl oc_nil))))) k3 rfl (Nat.le_of_ble_eq_true rfl) rfl) rfl ?_
     rintro _ W74 ⟨k76, o75⟩
     clear k3
     replace hB := o75.below hB l6
     refine Pu rfl (Ni (hK73 ?_))
     exact WC.ret fun a_ ha_ => hQ (cv_ret2 rfl (.agg rfl ty_agg_26_5 k76.range rfl) (.tmp rfl) (.inr ⟨6, rfl, by decide, make_6 hall1 (fold_x e64 hf (by rw [← hzn]; exact hob.get_t (by first | assumption | simp_all)))⟩) hB ha_)
    ·
     refine WC.skip (hK70 ?_)
     have hnn := hob.get_f (nm := r63.1) (by first | assumption | simp_all)
     have hx := (hps r63.2 (List.mem_map.2 ⟨r63, List.mem_of_getElem? e64, rfl⟩))
     refine WC.drawM 11 [(some 53, .is (.agg #[.int .i64 tb.kind, .int .i64 tb.num, .string tb.text, tb.nv, tb.iv])), (some 54, .is (gv)), (some 55, .is (.int .i64 (i : Int))), (some 56, .by fun u W => PtR (B10_10 :: W10.heap.size :: w.heap.size :: L) W u (encP r63)), (some 57, .by fun u W => PtR (B10_10 :: W10.heap.size :: w.heap.size :: L) W u [.string r63.1]), (some 58, .is (.string r63.1)), (some 59, .is (gv)), (some 60, .is (.int .i64 (i : Int))), (some 61, .by fun u W => PtR (B10_10 :: W10.heap.size :: w.heap.size :: L) W u (encP r63)), (some 62, .by fun u W => PtR (B10_10 :: W10.heap.size :: w.heap.size :: L) W u [.int .i64 r63.2.kind, .int .i64 r63.2.num, .string r63.2.text, r63.2.nv, r63.2.iv]), (some 63, .is (.agg #[.int .i64 r63.2.kind, .int .i64 r63.2.num, .string r63.2.text, r63.2.nv, r63.2.iv]))] [[], [], [], [1, 2], [3], [4], [], [], [6, 7], [8], [9]] (by kernel_rfl) (by kernel_rfl) (by kernel_rfl) (by kernel_rfl) (by kernel_rfl) (by kernel_rfl) (by kernel_rfl) ⟨fun _ _ _ hb h => h.below hb, fun _ _ _ hb h => h.below hb, fun _ _ _ hb h => h.below hb, fun _ _ _ hb h => h.below hb, trivial⟩ ?_ ?_
     ·
      refine Dc (fun Wd hd => ?_) ?_
      ·
       have k53 := k53.below hd
       exact Dd (dx_loadN rfl ty_agg_26_5 rfl k53.range rfl) rfl
      refine Dc (fun Wd hd => ?_) ?_
      ·
       exact Dd (dx_move rfl rfl) rfl
      refine Dc (fun Wd hd => ?_) ?_
      ·
       exact Dd (dx_move rfl rfl) rfl
      refine Dc (fun Wd hd => ?_) ?_
      ·
       have hgv := hgv.below hd
       exact (dx_idxF i rfl ty_slice_40 rfl rfl hgv (by omega) (at_mapX e64)).mono (fun v W' h => ⟨by rw [← h.1]; exact Below.refl _ _, by rw [← h.1]; exact h.2⟩)
      refine Dc (fun Wd hd => ?_) ?_
      ·
       intro u13_3 p13_3
       exact (dx_fldP 1 rfl ty_fld_43_0_0 rfl p13_3 (cs' := [.string r63.1]) rfl (Nat.succ_pos _)).mono (fun v W' h => ⟨by rw [← h.1]; exact Below.refl _ _, by rw [← h.1]; exact h.2⟩)
      refine Dc (fun Wd hd => ?_) ?_
      ·
       intro u13_4 p13_4
       exact Dd (dx_loadP rfl ty_one_9 rfl p13_4) rfl
      refine Dc (fun Wd hd => ?_) ?_
      ·
       exact Dd (dx_move rfl rfl) rfl
      refine Dc (fun Wd hd => ?_) ?_
      ·
       exact Dd (dx_move rfl rfl) rfl
      refine Dc (fun Wd hd => ?_) ?_
      ·
       have hgv := hgv.below hd
       exact (dx_idxF i rfl ty_slice_40 rfl rfl hgv (by omega) (at_mapX e64)).mono (fun v W' h => ⟨by rw [← h.1]; exact Below.refl _ _, by rw [← h.1]; exact h.2⟩)
      refine Dc (fun Wd hd => ?_) ?_
      ·
       intro u13_8 p13_8
       exact (dx_fldP 5 rfl ty_fld_43_1_1 rfl p13_8 (cs' := [.int .i64 r63.2.kind, .int .i64 r63.2.num, .string r63.2.text, r63.2.nv, r63.2.iv]) rfl (Nat.succ_pos _)).mono (fun v W' h => ⟨by rw [← h.1]; exact Below.refl _ _, by rw [← h.1]; exact h.2⟩)
      refine Dc (fun Wd hd => ?_) ?_
      ·
       intro u13_9 p13_9
       exact Dd (dx_loadPN rfl ty_agg_26_5 rfl p13_9 rfl) rfl
      exact trivial
     ·
      intro W77 b78
      intro u13_3 p13_3
      intro u13_4 p13_4
      intro u13_8 p13_8
      intro u13_9 p13_9
      replace hgv := hgv.below b78
      replace hps := hps.below b78
      replace htb := htb.below b78
      replace hx := hx.below b78
      replace k3 := k3.below b78
      replace k53 := k53.below b78
      replace hB := below_then hB b78
      replace hL := LL.below hL b78
      refine Ge (dx_cv rfl Try.func52 rfl rfl rfl (refPut_v (n + 1) tb r63.2 r63.1 W77 _ hL htb hx.up hob.2.1 hob.2.2 (by omega))) rfl rfl ?_
      rintro _ W80 ⟨⟨t, rfl, hte, htt⟩, b79⟩
      replace hgv := hgv.below b79
      replace hps := hps.below b79
      replace htb := htb.below b79
      replace hx := hx.below b79
      replace k3 := k3.below b79
      replace k53 := k53.below b79
      replace hB := below_then hB b79
      replace hL := LL.below hL b79
      obtain ⟨hob2, hns2, hts2, hln2⟩ := hob.put hnn hte
      replace htt := hob.put_deep hnn hte htb hx htt
      refine WL.do (dx_store (cs' := [.int .i64 t.kind, .int .i64 t.num, .string t.text, t.nv, t.iv]) (vs := [.int .i64 t.kind, .int .i64 t.num, .string t.text, t.nv, t.iv]) rfl ty_size_26_5 rfl rfl rfl (oc_cons rfl (oc_cons rfl (oc_cons rfl (oc_cons (htt.1).one (oc_cons (htt.2.1).one oc_nil))))) k53 rfl (Nat.le_of_ble_eq_true rfl) rfl) rfl ?_
      rintro _ W81 ⟨k83, o82⟩
      replace k3 := k3.other o82 n49
      clear k53
      replace hgv := hgv.only o82 (.tail _ (.head _))
      replace hps := hps.only o82 (.tail _ (.head _))
      replace hx := hx.only o82 (.tail _ (.head _))
      replace htt := htt.only o82 (.tail _ (.head _))
      replace hB := o82.below hB l50
      replace hL := LL.only hL o82
      refine Ni (hK61 (Rg (Pu rfl (Va (dx_add (r := (i : Int) + 1) rfl rfl rfl (wrap64_id (by omega))) rfl rfl (Pu rfl (Ni ?_))))))
      replace hL := hL.less (fun x hx => (.tail _ hx))
      replace hgv := hgv.less (fun x hx => (.tail _ hx))
      replace hps := hps.less (fun x hx => (.tail _ hx))
      replace htt := htt.less (fun x hx => (.tail _ hx))
      exact hK56 (i + 1) t (insA (lbT r63.1 (zs.map Prod.fst)) (erP r63) zs) ⟨(by omega), hob2, (by omega), (by rw [hns2, hzn, map_insA]), (by rw [hts2, hzt, map_insA, hzn]), (fold_go e64 hf (by rw [← hzn]; exact hnn)), hB, hL, hgv, hps, htt, k3, k83⟩ (by omega) (by repeat first | exact trivial | exact And.intro rfl trivial | refine And.intro rfl ?_ | refine And.intro (congrArg (fun z : Int => some (Value.int .i64 z)) (by omega)) ?_)
  ·
   replace c60 := dF c60
   refine WC.exit ?_
   refine hK54 (Sq fun K84 hK84 => (Sq fun K85 hK85 => (Rg (Pu rfl (Ni (hK85 (WC.block ?_)))))))
   have hfe := fold_end (by omega) hf
   refine WC.loop (fun (k : Nat) => [(0, gv), (2, .pointer (some ⟨w.heap.size, 0, none⟩)), (5, .pointer (some ⟨W10.heap.size, 0, none⟩)), (9, .int .i64 (k : Int))]) (fun (k : Nat) W => k ≤ ps.length ∧ (∀ j p, j < k → ps[j]? = some p → ¬ 12 ≤ deepJ 13 p.2.er) ∧ Below w.heap.size w W ∧ LL (W10.heap.size :: w.heap.size :: L) W ∧ RdF 6 (W10.heap.size :: w.heap.size :: L) W gv (ps.map encP) ∧ RdTs (n + 1) (W10.heap.size :: w.heap.size :: L) W (ps.map Prod.snd) ∧ RdT (n + 2) (W10.heap.size :: w.heap.size :: L) W tb ∧ Blk W w.heap.size [.int .i64 0, .int .i64 0, .string ⟨#[]⟩, .slice none 0 0, .slice none 0 0] ∧ Blk W W10.heap.size [.int .i64 tb.kind, .int .i64 tb.num, .string tb.text, tb.nv, tb.iv]) (fun (k : Nat) => ps.length - k) 0 (by repeat first | exact trivial | exact And.intro rfl trivial | refine And.intro rfl ?_ | refine And.intro (congrArg (fun z : Int => some (Value.int .i64 z)) (by omega)) ?_) ⟨(Nat.zero_le _), (fun j p h => by omega), hB, hL, hgv, hps, htb, k3, k53⟩ ?_
   clear hgv hps htb k3 k53 hB hL
   rintro K86 k W87 ⟨hk, hdp, hB, hL, hgv, hps, htb, k3, k53⟩ hK86
   refine Sq fun K88 hK88 => (Sq fun K89 hK89 => (Rg (Pu rfl (Pu rfl (Va (dx_lenFM rfl ty_slice_40 rfl hgv) rfl rfl (Va (dx_lss rfl rfl rfl) rfl rfl (Ni ?_)))))))
   refine hK89 ?_
   refine WC.cond rfl (fun c90 => ?_) (fun c90 => ?_)
   ·
    replace c90 := dT c90
    refine WC.skip (hK88 (Sq fun K91 hK91 => (WC.block (Sq fun K92 hK92 => (Rg (Pu rfl (Pu rfl ?_)))))))
    obtain ⟨r93, e94⟩ : ∃ x, ps[k]? = some x := ⟨_, List.getElem?_eq_getElem (by omega)⟩
    have hzr93 := (hzs r93 (List.mem_of_getElem? e94)).2
    refine Ge (dx_idxF k rfl ty_slice_40 rfl rfl hgv (by omega) (at_mapX e94)) rfl rfl ?_
    rintro u95 _ ⟨rfl, p96⟩
    refine Ge (dx_fldP 5 rfl ty_fld_43_1_1 rfl p96 (cs' := [.int .i64 r93.2.kind, .int .i64 r93.2.num, .string r93.2.text, r93.2.nv, r93.2.iv]) rfl (Nat.succ_pos _)) rfl rfl ?_
    rintro u97 _ ⟨rfl, p98⟩
    refine Va (dx_loadPN rfl ty_agg_26_5 rfl p98 rfl) rfl rfl ?_
    refine Ge (dx_cv rfl Try.func21 rfl rfl rfl (refDeep_e n r93.2 W87 _ hL (hps r93.2 (List.mem_map.2 ⟨r93, List.mem_of_getElem? e94, rfl⟩)))) rfl rfl ?_
    rintro _ W100 ⟨rfl, b99⟩
    replace hgv := hgv.below b99
    replace hps := hps.below b99
    replace htb := htb.below b99
    replace k3 := k3.below b99
    replace k53 := k53.below b99
    replace hB := below_then hB b99
    replace hL := LL.below hL b99
    refine Va (dx_geq rfl rfl rfl) rfl rfl (Ni (hK92 ?_))
    refine WC.cond rfl (fun c101 => ?_) (fun c101 => ?_)
    ·
     replace c101 := dT c101
     refine Sq fun K102 hK102 => (Rg (Va (dx_build rfl rfl (built_of_O (cs := zV) (by kernel_rfl) oc_nil)) rfl rfl ?_))
     refine WL.do (dx_store (cs' := zV) (vs := zV) rfl ty_size_26_5 rfl rfl rfl (oc_cons rfl (oc_cons rfl (oc_cons rfl (oc_cons rfl (oc_cons rfl oc_nil))))) k3 rfl (Nat.le_of_ble_eq_true rfl) rfl) rfl ?_
     rintro _ W103 ⟨k105, o104⟩
     clear k3
     replace hB := o104.below hB l6
     refine Pu rfl (Ni (hK102 ?_))
     exact WC.ret fun a_ ha_ => hQ (cv_ret2 rfl (.agg rfl ty_agg_26_5 k105.range rfl) (.tmp rfl) (.inr ⟨4, rfl, by decide, make_4 hall1 hfe e94 (by omega)⟩) hB ha_)
    ·
     replace c101 := dF c101
     refine WC.skip (hK91 (Rg (Pu rfl (Va (dx_add (r := (k : Int) + 1) rfl rfl rfl (wrap64_id (by omega))) rfl rfl (Pu rfl (Ni ?_))))))
     exact hK86 (k + 1) ⟨(by omega), (fun j p hj hp => by rcases Nat.lt_or_ge j k with h_ | h_; exact hdp j p h_ hp; (obtain rfl : j = k := by omega); rw [e94] at hp; cases hp; omega), hB, hL, hgv, hps, htb, k3, k53⟩ (by omega) (by repeat first | exact trivial | exact And.intro rfl trivial | refine And.intro rfl ?_ | refine And.intro (congrArg (fun z : Int => some (Value.int .i64 z)) (by omega)) ?_)
   ·
    replace c90 := dF c90
    refine WC.exit ?_
    refine hK84 (Sq fun K106 hK106 => (Rg (Va (dx_loadN rfl ty_agg_26_5 rfl k53.range rfl) rfl rfl ?_)))
    refine WL.do (dx_store (cs' := [.int .i64 tb.kind, .int .i64 tb.num, .string tb.text, tb.nv, tb.iv]) (vs := [.int .i64 tb.kind, .int .i64 tb.num, .string tb.text, tb.nv, tb.iv]) rfl ty_size_26_5 rfl rfl rfl (oc_cons rfl (oc_cons rfl (oc_cons rfl (oc_cons (htb.1).one (oc_cons (htb.2.1).one oc_nil))))) k3 rfl (Nat.le_of_ble_eq_true rfl) rfl) rfl ?_
    rintro _ W107 ⟨k109, o108⟩
    clear k3
    replace htb := htb.only o108 (.tail _ (.head _))
    replace hB := o108.below hB l6
    refine Pu rfl (Ni (hK106 ?_))
    exact WC.ret fun a_ ha_ => hQ (cv_ret2 rfl (.agg rfl ty_agg_26_5 k109.range rfl) (.tmp rfl) (.inl ⟨tb, n + 1, rfl, (by rw [hob.1, hzn, hzt]; exact make_k hall1 hfe (fun j p h => hdp j p (by omega))), (htb.less (fun x hx => (.tail _ (.tail _ hx))))⟩) hB ha_)

def WeiP (n : Nat) (t : Tr) (u : Value) (_ : World) : Prop := ∃ z : Int, u = .int .i64 z ∧ 1 ≤ z ∧ z ≤ 3003 ∧ (z ≤ 1000 → SzT 1000 n t)
theorem WeiP.below {n : Nat} {t : Tr} {u : Value} {w w' : World} (h : WeiP n t u w) (_ : Below w.heap.size w w') : WeiP n t u w' := h
def WeiQ (n : Nat) (t : Tr) (m : Int) (u : Value) (_ : World) : Prop := ∃ z : Int, u = .int .i64 (z + m) ∧ 1 ≤ z ∧ z ≤ 3003 ∧ (z ≤ 1000 → SzT 1000 n t)
theorem WeiQ.below {n : Nat} {t : Tr} {m : Int} {u : Value} {w w' : World} (h : WeiQ n t m u w) (_ : Below w.heap.size w w') : WeiQ n t m u w' := h
theorem weighP_v (n : Nat) (t : Tr) (w : World) (L : List Nat) (hL : LL L w) (h : RdT (n + 1) L w t) : CV Try.prog 28 [.agg #[.int .i64 t.kind, .int .i64 t.num, .string t.text, t.nv, t.iv], .int .i64 1000] w fun v W => WeiP (n + 1) t v W :=
 weigh_all (n + 1) t 1000 w L hL h (by decide)
def MkR (x : Except Int Js) (t : Tr) (e : Int) : Prop := (e = 0 ∧ x = .ok t.er) ∨ (e ≠ 0 ∧ x = .error e ∧ t = tNil 0)
theorem mkR_same {x : Except Int Js} {t u : Tr} {e f : Int} (h : MkR x t e) (k : MkR x u f) : e = f ∧ t.er = u.er := by
 rcases h with ⟨rfl, h⟩ | ⟨h0, h, rfl⟩ <;> rcases k with ⟨rfl, k⟩ | ⟨k0, k, rfl⟩
 · rw [h] at k; exact ⟨rfl, Except.ok.inj k⟩
 · rw [h] at k; cases k
 · rw [h] at k; cases k
 · rw [h] at k; exact ⟨Except.error.inj k, rfl⟩
theorem jMk_u (n : Nat) (ps : List PT) (gv : Value) (w : World) (L : List Nat) (hL : LL L w) (hgv : RdF 6 L w gv (ps.map encP)) (hps : RdTs (n + 1) L w (ps.map Prod.snd)) (hlen : ps.length ≤ 1000000) (hzs : ∀ p ∈ ps, SzT 1000000 (n + 1) p.2 ∧ p.1.size ≤ 1000000) : CV Try.prog 29 [gv] w fun v W => ∃ (t : Tr) (m : Nat) (e : Int), v = .tuple #[.agg #[.int .i64 t.kind, .int .i64 t.num, .string t.text, t.nv, t.iv], .int .i64 e] ∧ MkR (makeJ (ps.map erP)) t e ∧ RdT (m + 1) L W t :=
 (jMake_v n ps gv w L hL hgv hps hlen hzs).mono fun v W _ k => by
  rcases k with ⟨t, m, e1, e2, e3⟩ | ⟨e, e1, e0, e2⟩
  · exact ⟨t, m, 0, e1, .inl ⟨rfl, e2⟩, e3⟩
  · exact ⟨tNil 0, 0, e, e1, .inr ⟨e0, e2, rfl⟩, tNil_rd _ _ _ _⟩
theorem rMk_u (n : Nat) (ps : List PT) (gv : Value) (w : World) (L : List Nat) (hL : LL L w) (hgv : RdF 6 L w gv (ps.map encP)) (hps : RdTs (n + 1) L w (ps.map Prod.snd)) (hlen : ps.length ≤ 1000000) (hzs : ∀ p ∈ ps, SzT 1000000 (n + 1) p.2 ∧ p.1.size ≤ 1000000) : CV Try.prog 30 [gv] w fun v W => ∃ (t : Tr) (m : Nat) (e : Int), v = .tuple #[.agg #[.int .i64 t.kind, .int .i64 t.num, .string t.text, t.nv, t.iv], .int .i64 e] ∧ MkR (makeJ (ps.map erP)) t e ∧ RdT (m + 1) L W t :=
 (refMake_v n ps gv w L hL hgv hps hlen hzs).mono fun v W _ k => by
  rcases k with ⟨t, m, e1, e2, e3⟩ | ⟨e, e1, e0, e2⟩
  · exact ⟨t, m, 0, e1, .inl ⟨rfl, e2⟩, e3⟩
  · exact ⟨tNil 0, 0, e, e1, .inr ⟨e0, e2, rfl⟩, tNil_rd _ _ _ _⟩
set_option maxHeartbeats 1000000 in
theorem JsonMakes_v (n : Nat) (ps : List PT) (gv : Value) (w : World) (L : List Nat) (hL : LL L w) (hgv : RdF 6 L w gv (ps.map encP)) (hps : RdTs (n + 1) L w (ps.map Prod.snd)) : CV Try.prog 6 [gv] w fun v W => v = .bool true := by
 refine cv_enter (N := 60) (f := [(0, gv)]) Try.func6 rfl rfl rfl rfl fun Q hQ hE => ?_
 have hB := Below.refl w.heap.size w
 have hL0 := hL
 have hgvm : ps.length ≤ maxLen := by have := hgv.len; rwa [List.length_map] at this
 unfold maxLen at hgvm
 refine Sq fun K1 hK1 => (Rg (Pu rfl (Ni (hK1 (Sq fun K2 hK2 => (Sq fun K3 hK3 => (Rg ?_)))))))
 refine Ge (dx_cv rfl Try.func11 rfl rfl rfl (alive_v w _ hL)) rfl rfl ?_
 rintro _ W5 ⟨rfl, b4⟩
 replace hgv := hgv.below b4
 replace hps := hps.below b4
 replace hB := below_then hB b4
 replace hL := LL.below hL b4
 refine Va (dx_not rfl rfl) rfl rfl (Ni (hK3 (WC.condF rfl (WC.skip (hK2 (Sq fun K6 hK6 => (Sq fun K7 hK7 => ?_)))))))
 refine Rg (Pu rfl (Va (dx_lenFM rfl ty_slice_40 rfl hgv) rfl rfl (Va (dx_gtr rfl rfl rfl) rfl rfl (Ni (hK7 ?_)))))
 refine WC.cond rfl (fun c8 => ?_) (fun c8 => ?_)
 ·
  replace c8 := dT c8
  refine Sq fun K9 hK9 => (Rg (Pu rfl (Ni (hK9 ?_))))
  exact WC.ret fun a_ ha_ => hQ (cv_ret1 rfl (.tmp rfl) rfl hB ha_)
 ·
  replace c8 := dF c8
  refine WC.skip (hK6 (Sq fun K10 hK10 => (Rg (Pu rfl (Ni (hK10 (Sq fun K11 hK11 => ?_)))))))
  refine Sq fun K12 hK12 => (Rg (Pu rfl (Ni (hK12 (WC.block ?_)))))
  refine WC.loop2 (fun (i : Nat) (tot : Int) => [(0, gv), (4, .int .i64 (i : Int)), (3, .int .i64 tot)]) (fun (i : Nat) (tot : Int) W => i ≤ ps.length ∧ 0 ≤ tot ∧ tot ≤ 5003 * (i : Int) ∧ (tot ≤ 1000 → ∀ k a, k < i → ps[k]? = some a → SzT 1000 (n + 1) a.2 ∧ a.1.size ≤ 1000) ∧ Below w.heap.size w W ∧ LL (L) W ∧ RdF 6 (L) W gv (ps.map encP) ∧ RdTs (n + 1) (L) W (ps.map Prod.snd)) (fun (i : Nat) (tot : Int) => ps.length - i) 0 0 (by repeat first | exact trivial | exact And.intro rfl trivial | refine And.intro rfl ?_ | refine And.intro (congrArg (fun z : Int => some (Value.int .i64 z)) (by omega)) ?_) ⟨Nat.zero_le _, (by omega), (by omega), (fun _ k a hk => by omega), hB, hL, hgv, hps⟩ ?_
  clear hgv hps hB hL
  rintro K13 i tot W14 ⟨hi, hz0, hz1, hs, hB, hL, hgv, hps⟩ hK13
  refine Sq fun K15 hK15 => (Sq fun K16 hK16 => (Rg (Pu rfl (Pu rfl (Va (dx_lenFM rfl ty_slice_40 rfl hgv) rfl rfl (Va (dx_lss rfl rfl rfl) rfl rfl (Pu rfl ?_)))))))
  refine WL.split 18 rfl (fun g17 => ?_) (fun g17 => ?_)
  ·
   replace g17 := dT g17
   refine Pu rfl (Va (dx_leq rfl rfl rfl) rfl rfl (Pu rfl (Ni (hK16 ?_))))
   refine WC.cond rfl (fun c18 => ?_) (fun c18 => ?_)
   ·
    replace c18 := dT c18
    refine WC.skip (hK15 (Sq fun K19 hK19 => (WC.block ?_)))
    obtain ⟨r20, e21⟩ : ∃ x, ps[i]? = some x := ⟨_, List.getElem?_eq_getElem (by omega)⟩
    refine WC.drawM 15 [(some 24, .is (.int .i64 tot)), (some 25, .is (gv)), (some 26, .is (.int .i64 (i : Int))), (some 27, .by fun u W => PtR (L) W u (encP r20)), (some 28, .by fun u W => PtR (L) W u [.int .i64 r20.2.kind, .int .i64 r20.2.num, .string r20.2.text, r20.2.nv, r20.2.iv]), (some 29, .is (.agg #[.int .i64 r20.2.kind, .int .i64 r20.2.num, .string r20.2.text, r20.2.nv, r20.2.iv])), (some 30, .by fun u W => WeiP (n + 1) r20.2 u W), (some 31, .is (gv)), (some 32, .is (.int .i64 (i : Int))), (some 33, .by fun u W => PtR (L) W u (encP r20)), (some 34, .by fun u W => PtR (L) W u [.string r20.1]), (some 35, .is (.string r20.1)), (some 36, .is (.int .i64 ((r20.1).size : Int))), (some 37, .is (.int .i64 (if 2000 < ((r20.1).size : Int) then 2000 else ((r20.1).size : Int)))), (some 38, .by fun u W => WeiQ (n + 1) r20.2 (if 2000 < ((r20.1).size : Int) then 2000 else ((r20.1).size : Int)) u W)] [[], [], [], [1, 2], [3], [4], [5], [], [], [7, 8], [9], [10], [11], [12], [6, 13]] (by kernel_rfl) (by kernel_rfl) (by kernel_rfl) (by kernel_rfl) (by kernel_rfl) (by kernel_rfl) (by kernel_rfl) ⟨fun _ _ _ hb h => h.below hb, fun _ _ _ hb h => h.below hb, fun _ _ _ hb h => h.below hb, fun _ _ _ hb h => h.below hb, fun _ _ _ hb h => h.below hb, fun _ _ _ hb h => h.below hb, trivial⟩ ?_ ?_
    ·
     refine Dc (fun Wd hd => ?_) ?_
     ·
      exact Dd (dx_move rfl rfl) rfl
     refine Dc (fun Wd hd => ?_) ?_
     ·
      exact Dd (dx_move rfl rfl) rfl
     refine Dc (fun Wd hd => ?_) ?_
     ·
      exact Dd (dx_move rfl rfl) rfl
     refine Dc (fun Wd hd => ?_) ?_
     ·
      have hgv := hgv.below hd
      exact (dx_idxF i rfl ty_slice_40 rfl rfl hgv (by omega) (at_mapX e21)).mono (fun v W' h => ⟨by rw [← h.1]; exact Below.refl _ _, by rw [← h.1]; exact h.2⟩)
     refine Dc (fun Wd hd => ?_) ?_
     ·
      intro u9_3 p9_3
      exact (dx_fldP 5 rfl ty_fld_43_1_1 rfl p9_3 (cs' := [.int .i64 r20.2.kind, .int .i64 r20.2.num, .string r20.2.text, r20.2.nv, r20.2.iv]) rfl (Nat.succ_pos _)).mono (fun v W' h => ⟨by rw [← h.1]; exact Below.refl _ _, by rw [← h.1]; exact h.2⟩)
     refine Dc (fun Wd hd => ?_) ?_
     ·
      intro u9_4 p9_4
      exact Dd (dx_loadPN rfl ty_agg_26_5 rfl p9_4 rfl) rfl
     refine Dc (fun Wd hd => ?_) ?_
     ·
      have hps := hps.below hd
      exact DR.mono (dx_cv rfl Try.func28 rfl rfl rfl (weighP_v n r20.2 Wd _ (LL.below hL hd) (hps r20.2 (List.mem_map.2 ⟨r20, List.mem_of_getElem? e21, rfl⟩)))) (fun v W' h => ⟨h.2, h.1⟩)
     refine Dc (fun Wd hd => ?_) ?_
     ·
      exact Dd (dx_move rfl rfl) rfl
     refine Dc (fun Wd hd => ?_) ?_
     ·
      exact Dd (dx_move rfl rfl) rfl
     refine Dc (fun Wd hd => ?_) ?_
     ·
      have hgv := hgv.below hd
      exact (dx_idxF i rfl ty_slice_40 rfl rfl hgv (by omega) (at_mapX e21)).mono (fun v W' h => ⟨by rw [← h.1]; exact Below.refl _ _, by rw [← h.1]; exact h.2⟩)
     refine Dc (fun Wd hd => ?_) ?_
     ·
      intro u9_9 p9_9
      exact (dx_fldP 1 rfl ty_fld_43_0_0 rfl p9_9 (cs' := [.string r20.1]) rfl (Nat.succ_pos _)).mono (fun v W' h => ⟨by rw [← h.1]; exact Below.refl _ _, by rw [← h.1]; exact h.2⟩)
     refine Dc (fun Wd hd => ?_) ?_
     ·
      intro u9_10 p9_10
      exact Dd (dx_loadP rfl ty_one_9 rfl p9_10) rfl
     refine Dc (fun Wd hd => ?_) ?_
     ·
      exact Dd (dx_lenT rfl Try.underlying9 rfl) rfl
     refine Dc (fun Wd hd => ?_) ?_
     ·
      exact Dd (dx_min rfl rfl rfl) rfl
     refine Dc (fun Wd hd => ?_) ?_
     ·
      intro u9_6 p9_6
      obtain ⟨wz, rfl, hw1, hw2, hws⟩ := p9_6
      exact DV.dr (dx_add (r := wz + (if 2000 < ((r20.1).size : Int) then 2000 else ((r20.1).size : Int))) rfl rfl rfl (wrap64_id (by split <;> omega))) ⟨Below.refl _ _, ⟨wz, rfl, hw1, hw2, hws⟩⟩
     exact trivial
    ·
     intro W22 b23
     intro u9_3 p9_3
     intro u9_4 p9_4
     intro _ _
     intro u9_9 p9_9
     intro u9_10 p9_10
     rintro u9_14 ⟨wz, rfl, hw1, hw2, hws⟩
     replace hgv := hgv.below b23
     replace hps := hps.below b23
     replace hB := below_then hB b23
     replace hL := LL.below hL b23
     refine Va (dx_add (r := tot + (wz + (if 2000 < ((r20.1).size : Int) then 2000 else ((r20.1).size : Int)))) rfl rfl rfl (wrap64_id (by omega))) rfl rfl (Pu rfl (Ni (hK19 (Rg (Pu rfl (Va (dx_add (r := (i : Int) + 1) rfl rfl rfl (wrap64_id (by omega))) rfl rfl (Pu rfl ?_)))))))
     refine Ni ?_
     exact hK13 (i + 1) (tot + (wz + (if 2000 < ((r20.1).size : Int) then 2000 else ((r20.1).size : Int)))) ⟨(by omega), (by omega), (by omega), (fun hh k a hk ha => by rcases Nat.lt_or_ge k i with hl | hl; exact hs (by omega) k a hl ha; obtain rfl : k = i := (by omega); rw [e21] at ha; cases ha; exact ⟨hws (by omega), by omega⟩), hB, hL, hgv, hps⟩ (by omega) (by repeat first | exact trivial | exact And.intro rfl trivial | refine And.intro rfl ?_ | refine And.intro (congrArg (fun z : Int => some (Value.int .i64 z)) (by omega)) ?_)
   ·
    replace c18 := dF c18
    refine WC.exit ?_
    refine hK11 (Sq fun K24 hK24 => (Sq fun K25 hK25 => (Rg (Pu rfl (Va (dx_gtr rfl rfl rfl) rfl rfl (Ni (hK25 ?_)))))))
    refine WC.cond rfl (fun c26 => ?_) (fun c26 => ?_)
    ·
     replace c26 := dT c26
     refine Sq fun K27 hK27 => (Rg (Pu rfl (Ni (hK27 ?_))))
     exact WC.ret fun a_ ha_ => hQ (cv_ret1 rfl (.tmp rfl) rfl hB ha_)
    ·
     replace c26 := dF c26
     exfalso; omega
  ·
   replace g17 := dF g17
   refine Of rfl (Of rfl (Pu rfl (Ni (hK16 (WC.condF rfl ?_)))))
   refine WC.exit ?_
   refine hK11 (Sq fun K28 hK28 => (Sq fun K29 hK29 => (Rg (Pu rfl (Va (dx_gtr rfl rfl rfl) rfl rfl (Ni (hK29 ?_)))))))
   refine WC.cond rfl (fun c30 => ?_) (fun c30 => ?_)
   ·
    replace c30 := dT c30
    refine Sq fun K31 hK31 => (Rg (Pu rfl (Ni (hK31 ?_))))
    exact WC.ret fun a_ ha_ => hQ (cv_ret1 rfl (.tmp rfl) rfl hB ha_)
   ·
    replace c30 := dF c30
    have hie : i = ps.length := by omega
    have hzs : ∀ p ∈ ps, SzT 1000000 (n + 1) p.2 ∧ p.1.size ≤ 1000000 := fun p hp => by obtain ⟨k, hk⟩ := List.mem_iff_getElem?.1 hp; have h_ := hs (by omega) k p (by have := (List.getElem?_eq_some_iff.1 hk).1; omega) hk; exact ⟨h_.1.le (by decide), by omega⟩
    refine WC.skip (hK28 (Sq fun K32 hK32 => (Rg (Pu rfl ?_))))
    refine Ge (dx_cv rfl Try.func29 rfl rfl rfl (jMk_u n ps gv W14 _ hL hgv hps (by omega) hzs)) rfl rfl ?_
    rintro _ W34 ⟨⟨t, m, e, rfl, hte, ht⟩, b33⟩
    replace hgv := hgv.below b33
    replace hps := hps.below b33
    replace hB := below_then hB b33
    replace hL := LL.below hL b33
    refine Pu rfl (Pu rfl (Pu rfl ?_))
    refine Ge (dx_alloc rfl ty_zero_26 rfl) rfl rfl ?_
    rintro _ W35 ⟨rfl, k36, b37, z38⟩
    have l39 := hB.size
    replace hgv := hgv.more b37 (Nat.le_refl _)
    replace hps := hps.more b37 (Nat.le_refl _)
    replace ht := ht.more b37 (Nat.le_refl _)
    replace hB := below_then hB b37
    replace hL := LL.more hL z38
    refine WL.do (dx_store (cs' := [.int .i64 t.kind, .int .i64 t.num, .string t.text, t.nv, t.iv]) (vs := [.int .i64 t.kind, .int .i64 t.num, .string t.text, t.nv, t.iv]) rfl ty_size_26_5 rfl rfl rfl (oc_cons rfl (oc_cons rfl (oc_cons rfl (oc_cons (ht.1).one (oc_cons (ht.2.1).one oc_nil))))) k36 rfl (Nat.le_of_ble_eq_true rfl) rfl) rfl ?_
    rintro _ W40 ⟨k42, o41⟩
    clear k36
    replace hgv := hgv.only o41 (.head _)
    replace hps := hps.only o41 (.head _)
    replace ht := ht.only o41 (.head _)
    replace hB := o41.below hB l39
    replace hL := LL.only hL o41
    refine Pu rfl (Ni (hK32 (Sq fun K43 hK43 => (Rg (Pu rfl ?_)))))
    refine Ge (dx_cv rfl Try.func30 rfl rfl rfl (rMk_u n ps gv W40 _ hL hgv hps (by omega) hzs)) rfl rfl ?_
    rintro _ W45 ⟨⟨u, m2, f, rfl, hue, hu⟩, b44⟩
    replace ht := ht.below b44
    replace k42 := k42.below b44
    replace hB := below_then hB b44
    replace hL := LL.below hL b44
    refine Pu rfl (Pu rfl (Pu rfl ?_))
    refine Ge (dx_alloc rfl ty_zero_26 rfl) rfl rfl ?_
    rintro _ W46 ⟨rfl, k47, b48, z49⟩
    have n50 : W34.heap.size ≠ W45.heap.size := Nat.ne_of_lt k42.lt
    have l51 := hB.size
    replace ht := ht.more b48 (Nat.le_refl _)
    replace hu := hu.more b48 (Nat.le_refl _)
    replace k42 := k42.below b48
    replace hB := below_then hB b48
    replace hL := LL.more hL z49
    refine WL.do (dx_store (cs' := [.int .i64 u.kind, .int .i64 u.num, .string u.text, u.nv, u.iv]) (vs := [.int .i64 u.kind, .int .i64 u.num, .string u.text, u.nv, u.iv]) rfl ty_size_26_5 rfl rfl rfl (oc_cons rfl (oc_cons rfl (oc_cons rfl (oc_cons (hu.1).one (oc_cons (hu.2.1).one oc_nil))))) k47 rfl (Nat.le_of_ble_eq_true rfl) rfl) rfl ?_
    rintro _ W52 ⟨k54, o53⟩
    replace k42 := k42.other o53 n50
    clear k47
    replace ht := ht.only o53 (.head _)
    replace hu := hu.only o53 (.head _)
    replace hB := o53.below hB l51
    replace hL := LL.only hL o53
    refine Pu rfl (Ni (hK43 (Sq fun K55 hK55 => ?_)))
    have hsame := mkR_same hte hue
    refine Rg (Va (dx_loadN rfl ty_agg_26_5 rfl k42.range rfl) rfl rfl (Va (dx_loadN rfl ty_agg_26_5 rfl k54.range rfl) rfl rfl ?_))
    refine Ge (dx_cv rfl Try.func14 rfl rfl rfl (alikeE_v (m + m2) t u W52 _ hL (ht.le (by omega)) (hu.le (by omega)) hsame.2)) rfl rfl ?_
    rintro _ W57 ⟨rfl, b56⟩
    replace hB := below_then hB b56
    refine Pu rfl (Pu rfl (Pu rfl (Va (dv_T (dx_eql rfl rfl rfl) hsame.1) rfl rfl (Pu rfl (Pu rfl (Ni (hK55 ?_)))))))
    exact WC.ret fun a_ ha_ => hQ (cv_ret1 rfl (.tmp rfl) rfl hB ha_)

end Go.Proofs.Ytpinidlfcifeeaa

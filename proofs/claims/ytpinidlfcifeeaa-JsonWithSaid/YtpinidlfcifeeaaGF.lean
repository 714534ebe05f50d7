/- An object without items. What becomes of an object with an item, and without items. A loop over four things. No program stands here. The reference's o -/
import Derived.Test.YtpinidlfcifeeaaGE
namespace Go.Proofs.Ytpinidlfcifeeaa
open Go.RowKit
set_option linter.unusedVariables false
set_option linter.unusedSimpArgs false
set_option maxRecDepth 8000
set_option maxHeartbeats 2000000

set_option maxHeartbeats 1000000 in
theorem bsearchU_v (ts : List ByteArray) (x : ByteArray) (tv : Value) (w : World) (L : List Nat) (hL : LL L w) (h3 : RdF 1 L w tv (ts.map eS))  (hr : Ups ts) (hsm : ts.length ≤ 1000000000000) : CV Try.prog 49 [tv, .string x] w fun v W => v = .tuple #[.int .i64 ((lbT x ts : Nat) : Int), .bool (decide (ts[lbT x ts]? = some x))] := by
 refine cv_enter (N := 54) (f := [(0, tv), (1, .string x)]) Try.func49 rfl rfl rfl rfl fun Q hQ hE => ?_
 have hB := Below.refl w.heap.size w
 have h3m : ts.length ≤ maxLen := by have := h3.len; rwa [List.length_map] at this
 unfold maxLen at h3m
 refine Sq fun K1 hK1 => (Rg (Pu rfl (Pu rfl (Ni (hK1 (Sq fun K2 hK2 => (Rg ?_)))))))
 refine Pu rfl (Va (dx_lenFM rfl ty_slice_23 rfl h3) rfl rfl (Pu rfl (Ni (hK2 (Sq fun K3 hK3 => (Rg (Pu rfl ?_)))))))
 refine Pu rfl (Pu rfl (Ni (hK3 (Sq fun K4 hK4 => (WC.block ?_)))))
 refine WC.loop2 (fun (i : Nat) (j : Nat) => [(0, tv), (1, .string x), (6, .int .i64 (ts.length : Int)), (7, .int .i64 (i : Int)), (8, .int .i64 (j : Int))]) (fun (i : Nat) (j : Nat) W => i ≤ j ∧ j ≤ ts.length ∧ (∀ q a, q < i → ts[q]? = some a → sless a x = true) ∧ (∀ q a, j ≤ q → ts[q]? = some a → sless a x = false) ∧ Below w.heap.size w W ∧ LL (L) W ∧ RdF 1 (L) W tv (ts.map eS)) (fun (i : Nat) (j : Nat) => j - i) 0 ts.length (by repeat first | exact trivial | exact And.intro rfl trivial | refine And.intro rfl ?_ | refine And.intro (congrArg (fun z : Int => some (Value.int .i64 z)) (by omega)) ?_ | refine And.intro (congrArg (fun z : Bool => some (Value.bool z)) (by first | exact (decide_eq_true (by omega)).symm | exact (decide_eq_false (by omega)).symm)) ?_) ⟨Nat.zero_le _, Nat.le_refl _, (fun q a hq => by omega), (fun q a hq ha => by rw [List.getElem?_eq_none hq] at ha; cases ha), hB, hL, h3⟩ ?_
 clear h3 hB hL
 rintro K5 i j W6 ⟨hi, hj, h1_, h2_, hB, hL, h3⟩ hK5
 refine Sq fun K7 hK7 => (Sq fun K8 hK8 => (Rg (Pu rfl (Pu rfl (Va (dx_lss rfl rfl rfl) rfl rfl (Ni (hK8 ?_)))))))
 refine WC.cond rfl (fun c9 => ?_) (fun c9 => ?_)
 ·
  replace c9 := dT c9
  refine WC.skip (hK7 (WC.block (Sq fun K10 hK10 => ?_)))
  obtain ⟨m, hm⟩ : ∃ k : Nat, k = (i + j) / 2 := ⟨_, rfl⟩
  have hm1 : i ≤ m ∧ m < j := by omega
  refine Rg (Pu rfl (Pu rfl (Va (dx_add (r := ((i + j : Nat) : Int)) rfl rfl rfl (by rw [wrap64_id (by omega)]; omega)) rfl rfl (Va (dx_conv (r := ((i + j : Nat) : Int)) rfl Try.underlying3 Try.underlying97 rfl (wrapu64_id (by omega))) rfl rfl (Va (dx_shr (r := (m : Int)) rfl rfl rfl (by decide) (by decide) (by show ((i + j : Nat) : Int) / 2 ^ 1 = _; omega)) rfl rfl (Va (dx_conv (r := (m : Int)) rfl Try.underlying97 Try.underlying3 rfl (wrap64_id (by omega))) rfl rfl (Pu rfl ?_)))))))
  refine Ni (hK10 (Sq fun K11 hK11 => (Rg (Pu rfl (Pu rfl ?_)))))
  obtain ⟨r12, e13⟩ : ∃ x, ts[m]? = some x := ⟨_, List.getElem?_eq_getElem (by omega)⟩
  refine Ge (dx_idxF m rfl ty_slice_23 rfl rfl h3 (by omega) (at_mapX e13)) rfl rfl ?_
  rintro u14 _ ⟨rfl, p15⟩
  refine Va (dx_loadP rfl ty_one_9 rfl p15) rfl rfl (Pu rfl ?_)
  refine Ge (dx_cv rfl Try.func74 rfl rfl rfl (lessC_v r12 x W6 _ hL)) rfl rfl ?_
  rintro _ W17 ⟨rfl, b16⟩
  replace h3 := h3.below b16
  replace hB := below_then hB b16
  replace hL := LL.below hL b16
  refine Ni (hK11 ?_)
  refine WC.cond rfl (fun c18 => ?_) (fun c18 => ?_)
  ·
   refine Rg (Pu rfl (Va (dx_add (r := ((m + 1 : Nat) : Int)) rfl rfl rfl (by rw [wrap64_id (by omega)]; omega)) rfl rfl (Pu rfl (Ni ?_))))
   exact hK5 (m + 1) j ⟨(by omega), (by omega), (fun q a hq ha => ups_ahead hr (i := m) (by omega) e13 c18 ha), h2_, hB, hL, h3⟩ (by omega) (by repeat first | exact trivial | exact And.intro rfl trivial | refine And.intro rfl ?_ | refine And.intro (congrArg (fun z : Int => some (Value.int .i64 z)) (by omega)) ?_ | refine And.intro (congrArg (fun z : Bool => some (Value.bool z)) (by first | exact (decide_eq_true (by omega)).symm | exact (decide_eq_false (by omega)).symm)) ?_)
  ·
   refine Rg (Pu rfl (Pu rfl (Ni ?_)))
   exact hK5 i m ⟨(by omega), (by omega), h1_, (fun q a hq ha => ups_behind hr (i := m) hq e13 (by first | exact c18 | exact Bool.not_eq_true _ ▸ c18) ha), hB, hL, h3⟩ (by omega) (by repeat first | exact trivial | exact And.intro rfl trivial | refine And.intro rfl ?_ | refine And.intro (congrArg (fun z : Int => some (Value.int .i64 z)) (by omega)) ?_ | refine And.intro (congrArg (fun z : Bool => some (Value.bool z)) (by first | exact (decide_eq_true (by omega)).symm | exact (decide_eq_false (by omega)).symm)) ?_)
 ·
  replace c9 := dF c9
  refine WC.exit ?_
  refine hK4 (Sq fun K19 hK19 => ?_)
  have hlb : lbT x ts = i := lbT_eq (by omega) h1_ (fun a ha => h2_ i a (by omega) ha)
  refine Rg (Pu rfl (Pu rfl (Pu rfl (Va (dx_lss rfl rfl rfl) rfl rfl (Pu rfl ?_)))))
  refine WL.split 35 rfl (fun g20 => ?_) (fun g20 => ?_)
  ·
   replace g20 := dT g20
   refine Pu rfl (Pu rfl ?_)
   obtain ⟨r21, e22⟩ : ∃ x, ts[i]? = some x := ⟨_, List.getElem?_eq_getElem (by omega)⟩
   refine Ge (dx_idxF i rfl ty_slice_23 rfl rfl h3 (by omega) (at_mapX e22)) rfl rfl ?_
   rintro u23 _ ⟨rfl, p24⟩
   refine Va (dx_loadP rfl ty_one_9 rfl p24) rfl rfl (Pu rfl (Va (dx_eqlT rfl rfl rfl) rfl rfl (Pu rfl ?_)))
   refine WL.split 42 rfl (fun g25 => ?_) (fun g25 => ?_)
   ·
    replace g25 := dT g25
    refine Of rfl (Of rfl (Of rfl (Of rfl (Of rfl (Of rfl (Of rfl (Of rfl ?_)))))))
    refine Of rfl (Pu rfl (Pu rfl (Pu rfl (Pu rfl (Ni (hK19 ?_))))))
    exact WC.ret fun a_ ha_ => hQ (cv_ret2 rfl (.tmp rfl) (.tmp rfl) (by rw [hlb]; exact congrArg (fun b => Value.tuple #[.int .i64 (i : Int), .bool b]) (decide_eq_true (by rw [e22]; congr 1 <;> assumption)).symm) hB ha_)
   ·
    replace g25 := dF g25
    refine Pu rfl (Pu rfl ?_)
    refine Ge (dx_idxF i rfl ty_slice_23 rfl rfl h3 (by omega) (at_mapX e22)) rfl rfl ?_
    rintro u26 _ ⟨rfl, p27⟩
    refine Va (dx_loadP rfl ty_one_9 rfl p27) rfl rfl ?_
    refine Ge (dx_cv rfl Try.func75 rfl rfl rfl (nanS_v r21 W6 _ hL)) rfl rfl ?_
    rintro _ W29 ⟨rfl, b28⟩
    replace hB := below_then hB b28
    refine Pu rfl (Of rfl (Of rfl (Pu rfl (Pu rfl (Pu rfl (Pu rfl (Pu rfl ?_)))))))
    refine Ni (hK19 ?_)
    exact WC.ret fun a_ ha_ => hQ (cv_ret2 rfl (.tmp rfl) (.tmp rfl) (by rw [hlb]; exact congrArg (fun b => Value.tuple #[.int .i64 (i : Int), .bool b]) (decide_eq_false (by rw [e22]; intro e_; cases e_; exact absurd rfl (by assumption))).symm) hB ha_)
  ·
   replace g20 := dF g20
   refine Of rfl (Of rfl (Of rfl (Of rfl (Of rfl (Of rfl (Of rfl (Of rfl ?_)))))))
   refine Of rfl (Of rfl (Of rfl (Of rfl (Of rfl (Of rfl (Of rfl (Of rfl ?_)))))))
   refine Of rfl (Pu rfl (Pu rfl (Pu rfl (Ni (hK19 ?_)))))
   exact WC.ret fun a_ ha_ => hQ (cv_ret2 rfl (.tmp rfl) (.tmp rfl) (by rw [hlb]; exact congrArg (fun b => Value.tuple #[.int .i64 (i : Int), .bool b]) (decide_eq_false (by rw [List.getElem?_eq_none (by omega)]; intro e_; cases e_)).symm) hB ha_)

theorem bsearchM_v (gs : List ByteArray) (x : ByteArray) (tv : Value) (w : World) (L : List Nat) (hL : LL L w) (h3 : RdF 1 L w tv ((sortT gs).map eS)) (hsm : gs.length ≤ 1000000000000) : CV Try.prog 49 [tv, .string x] w fun v W => v = .tuple #[.int .i64 ((lbT x (sortT gs) : Nat) : Int), .bool (hasB gs x)] := by
 have e : decide ((sortT gs)[lbT x (sortT gs)]? = some x) = hasB gs x := by
  have h := ((mem_ups (ups_sort gs)).symm.trans (sortT_mem gs x)).trans hasB_iff.symm
  cases hb : hasB gs x with
  | true => exact decide_eq_true (h.2 hb)
  | false => exact decide_eq_false fun e => by rw [h.1 e] at hb; cases hb
 rw [← e]
 exact bsearchU_v (sortT gs) x tv w L hL h3 (ups_sort gs) (by rw [sortT_len]; exact hsm)
theorem eS_is (s : ByteArray) : eS s = [.string s] := rfl
theorem sort_v {w : World} {v : Value} {ts : List ByteArray} {base : Nat} (h : NewW 1 base (ts.map eS) v w) (hb : base ≤ w.heap.size) (hlen : ts.length ≤ 1000000) : Calls Try.prog 53 [v].toArray w fun e w' => ∃ x, e = .returned x ∧ NewW 1 base ((sortT ts).map eS) v w' ∧ Below base w w' := sort_new eS_is Try.slices_Sort_string Try.slices_Sort_string_none h hb hlen
def withoutJ (g : List ByteArray) (j : Js) : Js := if (decide (j.kind = 6) && rightJ upB 12 j) = true then .mk 6 0 ⟨#[]⟩ (wnN g j.names) (wnT g j.names j.items) else j
theorem MembI.le {n b : Nat} {L L' : List Nat} {nv iv : Value} {ns : List ByteArray} {ts : List Tr} {W : World} (h : MembI n b L nv ns iv ts W) (hl : ∀ x, x ∈ L' → x ∈ L) : MembI n b L' nv ns iv ts W := by
  obtain ⟨h0, h | ⟨Bn, Bi, h1, h2, h3, h4, h5, h6⟩⟩ := h
  · exact ⟨fun x hx => h0 x (hl x hx), .inl h⟩
  · exact ⟨fun x hx => h0 x (hl x hx), .inr ⟨Bn, Bi, h1, h2, h3, h4, h5, fun c hc => (h6 c hc).less fun x hx => by
      simp only [List.mem_cons] at hx ⊢
      rcases hx with h_ | h_ | h_
      · exact .inl h_
      · exact .inr (.inl h_)
      · exact .inr (.inr (hl x h_))⟩⟩
def AgL (w1 : World) (L0 L : List Nat) (w : World) : Prop := (∀ x ∈ L, x < w1.heap.size → x ∈ L0) ∧ Agree L0 w1 w
theorem Agree.trans' {L : List Nat} {w w' w'' : World} (h : Agree L w w') (k : Agree L w' w'') : Agree L w w'' := ⟨Nat.le_trans h.1 k.1, fun i hi hlt => (k.2 i hi (Nat.lt_of_lt_of_le hlt h.1)).trans (h.2 i hi hlt)⟩
section
variable {w1 w w' : World} {L0 L : List Nat}
theorem AgL.below (h : AgL w1 L0 L w) (hb : Below w.heap.size w w') : AgL w1 L0 L w' := ⟨h.1, h.2.trans' (.of_below hb)⟩
theorem AgL.more (h : AgL w1 L0 L w) (hb : Below w.heap.size w w') {B : Nat} (hB : w.heap.size ≤ B) : AgL w1 L0 (B :: L) w' := ⟨fun x hx hlt => by
 rcases List.mem_cons.1 hx with rfl | hx
 · exact absurd hlt (Nat.not_lt.2 (Nat.le_trans h.2.1 hB))
 · exact h.1 x hx hlt, h.2.trans' (.of_below hb)⟩
theorem AgL.only (h : AgL w1 L0 L w) {C : Nat} (ho : Only C w w') (hC : C ∈ L) : AgL w1 L0 L w' := ⟨h.1, ⟨by rw [ho.size]; exact h.2.1, fun k hk hlt => (ho.block k (fun e => hk (h.1 k (e ▸ hC) hlt))).trans (h.2.2 k hk hlt)⟩⟩
theorem AgL.grow' (h : AgL w1 L0 L w) {B B' : Nat} (g : GrowB B B' w w') (hB : B ∈ L) : AgL w1 L0 (B' :: L) w' := ⟨fun x hx hlt => by
  rcases List.mem_cons.1 hx with rfl | hx
  · rcases g.new with rfl | hn
    · exact h.1 _ hB hlt
    · exact absurd hlt (Nat.not_lt.2 (Nat.le_trans h.2.1 hn))
  · exact h.1 x hx hlt, ⟨Nat.le_trans h.2.1 g.size, fun k hk hlt => (g.block k (Nat.lt_of_lt_of_le hlt h.2.1) (fun e => hk (h.1 k (e ▸ hB) hlt))).trans (h.2.2 k hk hlt)⟩⟩
theorem AgL.less (h : AgL w1 L0 L w) {L' : List Nat} (hl : ∀ x, x ∈ L' → x ∈ L) : AgL w1 L0 L' w := ⟨fun x hx => h.1 x (hl x hx), h.2⟩
theorem AgL.add (h : AgL w1 L0 L w) {B : Nat} (hB : w1.heap.size ≤ B) : AgL w1 L0 (B :: L) w := ⟨fun x hx hlt => by
 rcases List.mem_cons.1 hx with rfl | hx
 · exact absurd hlt (Nat.not_lt.2 hB)
 · exact h.1 x hx hlt, h.2⟩
theorem AgL.rd {s : Nat} {v : Value} {rs : List (List Value)} (h : AgL w1 L0 L w) (k : RdF s L0 w1 v rs) : RdF s L w v rs := by
 have k2 := k.agree h.2
 obtain ⟨h0, hl, a, cap, rfl, c1, c2, c3, c4⟩ := k2
 refine ⟨h0, hl, a, cap, rfl, c1, c2, c3, fun hn => ?_⟩
 obtain ⟨X, q, e, hX, hr⟩ := c4 hn
 exact ⟨X, q, e, fun hx => hX (h.1 X hx (rdf_lt k e hn)), hr⟩
theorem AgL.rt (h : AgL w1 L0 L w) : ∀ {n : Nat} {t : Tr}, RdT n L0 w1 t → RdT n L w t
 | 0, _, k => k
 | _ + 1, _, k => ⟨h.rd k.1, h.rd k.2.1, fun c hc => h.rt (k.2.2 c hc)⟩
end
set_option maxHeartbeats 2000000 in
theorem jWithout_v (n : Nat) (p : Tr) (gs : List ByteArray) (gv : Value) (w : World) (L : List Nat) (hL : LL L w) (htp : RdT (n + 1) L w p) (hgv : RdF 1 [] w gv (gs.map eS))  (hz : SzT 1000000 (n + 1) p) (hgl : gs.length ≤ 1000000) : CV Try.prog 26 [.agg #[.int .i64 p.kind, .int .i64 p.num, .string p.text, p.nv, p.iv], gv] w fun v W => ∃ t, v = .agg #[.int .i64 t.kind, .int .i64 t.num, .string t.text, t.nv, t.iv] ∧ t.er = withoutJ gs p.er ∧ RdT (n + 1) L W t := by
 refine cv_enter (N := 54) (f := [(0, .agg #[.int .i64 p.kind, .int .i64 p.num, .string p.text, p.nv, p.iv]), (1, gv)]) Try.func26 rfl rfl rfl rfl fun Q hQ hE => ?_
 have hB := Below.refl w.heap.size w
 have hL0 := hL
 refine Sq fun K1 hK1 => ?_
 obtain ⟨hnp, hip, hcp⟩ := htp
 replace hcp : RdTs n (L) w p.items := hcp
 have hpl : p.names.length ≤ 1000000 ∧ p.items.length ≤ 1000000 := ⟨hz.2.1, hz.2.2.1⟩
 refine Rg ?_
 refine Ge (dx_box rfl rfl rfl) rfl rfl ?_
 rintro _ W2 ⟨rfl, k3, b4, z5⟩
 have l6 := hB.size
 replace hgv := hgv.more b4 (Nat.le_refl _)
 replace hnp := hnp.more b4 (Nat.le_refl _)
 replace hip := hip.more b4 (Nat.le_refl _)
 replace hcp := hcp.more b4 (Nat.le_refl _)
 replace hB := below_then hB b4
 replace hL := LL.more hL z5
 refine Ge (dx_alloc rfl ty_zero_26 rfl) rfl rfl ?_
 rintro _ W7 ⟨rfl, k8, b9, z10⟩
 have l12 := hB.size
 replace hgv := hgv.more b9 (Nat.le_refl _)
 replace hnp := hnp.more b9 (Nat.le_refl _)
 replace hip := hip.more b9 (Nat.le_refl _)
 replace hcp := hcp.more b9 (Nat.le_refl _)
 replace k3 := k3.below b9
 replace hB := below_then hB b9
 replace hL := LL.more hL z10
 refine Ni (hK1 (Sq fun K13 hK13 => (Sq fun K14 hK14 => (Rg (Va (dx_loadN rfl ty_agg_26_5 rfl k3.range rfl) rfl rfl ?_)))))
 refine Ge (dx_cv rfl Try.func46 rfl rfl rfl (rightObj_v n p W7 _ hL (show RdT (n + 1) (W2.heap.size :: w.heap.size :: L) W7 p from ⟨hnp, hip, hcp⟩) hz)) rfl rfl ?_
 rintro _ W16 ⟨rfl, b15⟩
 replace hgv := hgv.below b15
 replace hnp := hnp.below b15
 replace hip := hip.below b15
 replace hcp := hcp.below b15
 replace k3 := k3.below b15
 replace k8 := k8.below b15
 replace hB := below_then hB b15
 replace hL := LL.below hL b15
 refine Va (dx_not rfl rfl) rfl rfl (Ni (hK14 ?_))
 refine WC.cond rfl (fun c17 => ?_) (fun c17 => ?_)
 ·
  replace c17 := bnot_t c17
  refine Sq fun K18 hK18 => (Rg (Va (dx_loadN rfl ty_agg_26_5 rfl k3.range rfl) rfl rfl ?_))
  refine WL.do (dx_store (cs' := [.int .i64 p.kind, .int .i64 p.num, .string p.text, p.nv, p.iv]) (vs := [.int .i64 p.kind, .int .i64 p.num, .string p.text, p.nv, p.iv]) rfl ty_size_26_5 rfl rfl rfl (oc_cons rfl (oc_cons rfl (oc_cons rfl (oc_cons hnp.one (oc_cons hip.one oc_nil))))) k8 rfl (Nat.le_of_ble_eq_true rfl) rfl) rfl ?_
  rintro _ W19 ⟨k21, o20⟩
  clear k8
  replace hnp := hnp.only o20 (.head _)
  replace hip := hip.only o20 (.head _)
  replace hcp := hcp.only o20 (.head _)
  replace hB := o20.below hB l12
  refine Ni (hK18 ?_)
  exact WC.ret fun a_ ha_ => hQ (cv_ret1 rfl (.agg rfl ty_agg_26_5 k21.range rfl) ⟨p, rfl, (by unfold withoutJ; rw [if_neg (by rw [er_kind]; simp_all)]), ((show RdT (n + 1) (W2.heap.size :: w.heap.size :: L) W19 p from ⟨hnp, hip, hcp⟩).less (fun x hx => (.tail _ (.tail _ hx))))⟩ hB ha_)
 ·
  replace c17 := bnot_f c17
  refine WC.skip (hK13 (Sq fun K22 hK22 => ?_))
  have hro : (decide (p.er.kind = 6) && rightJ upB 12 p.er) = true := by rw [er_kind]; first | assumption | simp_all
  have hko := of_decide_eq_true (Bool.and_eq_true_iff.1 hro).1
  obtain ⟨hris, hlen⟩ := obj_right hko (Bool.and_eq_true_iff.1 hro).2
  rw [er_names, er_items, List.length_map] at hlen
  refine Rg (Pu rfl ?_)
  refine Ge (dx_cv rfl Try.func47 rfl rfl rfl (cloneST_v _ _ W16 [] (LL.nil _) (RdF.less (L' := []) hgv (fun x hx => by cases hx)) (oc_eS gs) (by rw [List.length_map]; omega))) rfl rfl ?_
  rintro u3 W3_ ⟨hN3, b3_⟩
  refine Pu rfl (Ni (hK22 (Sq fun K23 hK23 => (Rg (Pu rfl ?_)))))
  refine Ge (dx_callA rfl Try.func53 rfl rfl rfl (sort_v hN3 b3_.size hgl)) rfl rfl ?_
  rintro _ W4_ ⟨hN4, b4_⟩
  have b5_ := b3_.trans b4_
  have hgs := hN4.rdL hL (Nat.le_refl _)
  replace hnp := hnp.below b5_
  replace hip := hip.below b5_
  replace hcp := hcp.below b5_
  replace k3 := k3.below b5_
  replace k8 := k8.below b5_
  replace hB := below_then hB b5_
  replace hL := LL.below hL b5_
  refine Ni (hK23 (Sq fun K24 hK24 => (Rg (Va (dx_build rfl rfl (built_of_O (cs := [.int .i64 6, .int .i64 0, .string ⟨#[]⟩, .slice none 0 0, .slice none 0 0]) (by kernel_rfl) (oc_cons rfl oc_nil))) rfl rfl ?_))))
  refine Ge (dx_alloc rfl ty_zero_26 rfl) rfl rfl ?_
  rintro _ W25 ⟨rfl, k26, b27, z28⟩
  have n29 : w.heap.size ≠ W4_.heap.size := Nat.ne_of_lt k3.lt
  have n30 : W2.heap.size ≠ W4_.heap.size := Nat.ne_of_lt k8.lt
  have l31 := hB.size
  replace hnp := hnp.more b27 (Nat.le_refl _)
  replace hip := hip.more b27 (Nat.le_refl _)
  replace hcp := hcp.more b27 (Nat.le_refl _)
  replace hgs := hgs.more b27 (Nat.le_refl _)
  replace k3 := k3.below b27
  replace k8 := k8.below b27
  replace hB := below_then hB b27
  replace hL := LL.more hL z28
  refine WL.do (dx_store (cs' := [.int .i64 6, .int .i64 0, .string ⟨#[]⟩, .slice none 0 0, .slice none 0 0]) (vs := [.int .i64 6, .int .i64 0, .string ⟨#[]⟩, .slice none 0 0, .slice none 0 0]) rfl ty_size_26_5 rfl rfl rfl (oc_cons rfl (oc_cons rfl (oc_cons rfl (oc_cons rfl (oc_cons rfl oc_nil))))) k26 rfl (Nat.le_of_ble_eq_true rfl) rfl) rfl ?_
  rintro _ W32 ⟨k34, o33⟩
  replace k3 := k3.other o33 n29
  replace k8 := k8.other o33 n30
  clear k26
  replace hnp := hnp.only o33 (.head _)
  replace hip := hip.only o33 (.head _)
  replace hcp := hcp.only o33 (.head _)
  replace hgs := hgs.only o33 (.head _)
  replace hB := o33.below hB l31
  replace hL := LL.only hL o33
  refine Ni (hK24 (Sq fun K35 hK35 => (Sq fun K36 hK36 => (Rg (Va (dx_fld (o1 := 3) rfl ty_fld_26_3_3 rfl rfl) rfl rfl (Va (dx_load rfl ty_one_23 rfl (k3.cell (k := 3) rfl)) rfl rfl (Va (dx_lenFM rfl ty_slice_23 rfl hnp) rfl rfl ?_)))))))
  refine Pu rfl (Ni (hK36 (WC.block ?_)))
  obtain ⟨b0, hb0⟩ : ∃ b, b = W32.heap.size := ⟨_, rfl⟩
  have hb0L : ∀ x ∈ (W4_.heap.size :: W2.heap.size :: w.heap.size :: L), x < b0 := by rw [hb0]; exact hL
  have hb0w : w.heap.size ≤ b0 := by rw [hb0]; exact hB.size
  have hnp6 := hnp
  have hip6 := hip
  have hcp6 := hcp
  have hgs6 := hgs
  have hag : AgL W32 (W4_.heap.size :: W2.heap.size :: w.heap.size :: L) (W4_.heap.size :: W2.heap.size :: w.heap.size :: L) W32 := ⟨fun _ h _ => h, ⟨Nat.le_refl _, fun _ _ _ => rfl⟩⟩
  have hm : MembI n b0 (W4_.heap.size :: W2.heap.size :: w.heap.size :: L) (.slice none 0 0) (wnN gs (p.names.take 0)) (.slice none 0 0) (wnT gs (p.names.take 0) (p.items.take 0)) W32 := ⟨hb0L, .inl ⟨rfl, rfl, rfl, rfl⟩⟩
  refine WC.loop3 (fun (i : Nat) (nv : Value) (iv : Value) => [(2, .pointer (some ⟨w.heap.size, 0, none⟩)), (4, .pointer (some ⟨W2.heap.size, 0, none⟩)), (5, u3), (6, .pointer (some ⟨W4_.heap.size, 0, none⟩)), (21, p.nv), (22, .int .i64 (p.names.length : Int)), (23, .int .i64 (i : Int))]) (fun (i : Nat) (nv : Value) (iv : Value) W => i ≤ p.names.length ∧ Below w.heap.size w W ∧ LL (W4_.heap.size :: W2.heap.size :: w.heap.size :: L) W ∧ RdF 1 (W4_.heap.size :: W2.heap.size :: w.heap.size :: L) W p.nv (p.names.map eS) ∧ RdF 5 (W4_.heap.size :: W2.heap.size :: w.heap.size :: L) W p.iv (p.items.map encT) ∧ RdTs n (W4_.heap.size :: W2.heap.size :: w.heap.size :: L) W p.items ∧ RdF 1 (W4_.heap.size :: W2.heap.size :: w.heap.size :: L) W u3 ((sortT gs).map eS) ∧ AgL W32 (W4_.heap.size :: W2.heap.size :: w.heap.size :: L) (W4_.heap.size :: W2.heap.size :: w.heap.size :: L) W ∧ MembI n b0 (W4_.heap.size :: W2.heap.size :: w.heap.size :: L) nv (wnN gs (p.names.take i)) iv (wnT gs (p.names.take i) (p.items.take i)) W ∧ Blk W w.heap.size [.int .i64 p.kind, .int .i64 p.num, .string p.text, p.nv, p.iv] ∧ Blk W W2.heap.size [.int .i64 0, .int .i64 0, .string ⟨#[]⟩, .slice none 0 0, .slice none 0 0] ∧ Blk W W4_.heap.size [.int .i64 6, .int .i64 0, .string ⟨#[]⟩, nv, iv]) (fun (i : Nat) (nv : Value) (iv : Value) => p.names.length - i) 0 (.slice none 0 0) (.slice none 0 0) (by repeat first | exact trivial | exact And.intro rfl trivial | refine And.intro rfl ?_ | refine And.intro (congrArg (fun z : Int => some (Value.int .i64 z)) (by omega)) ?_ | refine And.intro (congrArg (fun z : Bool => some (Value.bool z)) (by first | exact (decide_eq_true (by omega)).symm | exact (decide_eq_false (by omega)).symm)) ?_) ⟨Nat.zero_le _, hB, hL, hnp, hip, hcp, hgs, hag, hm, k3, k8, k34⟩ ?_
  clear hnp hip hcp hgs hag hm k3 k8 k34 hB hL
  rintro K37 i nv iv W38 ⟨hi, hB, hL, hnp, hip, hcp, hgs, hag, hm, k3, k8, k34⟩ hK37
  refine Sq fun K39 hK39 => (Rg (Va (dx_lss rfl rfl rfl) rfl rfl (Ni (hK39 (Sq fun K40 hK40 => ?_)))))
  refine WC.cond rfl (fun c41 => ?_) (fun c41 => ?_)
  ·
   replace c41 := dT c41
   refine WC.skip (hK40 (Sq fun K42 hK42 => (WC.block (Sq fun K43 hK43 => (Rg (Pu rfl ?_))))))
   obtain ⟨r44, e45⟩ : ∃ x, p.names[i]? = some x := ⟨_, List.getElem?_eq_getElem (by omega)⟩
   refine Ge (dx_idxF i rfl ty_slice_23 rfl rfl hnp (by omega) (at_mapX e45)) rfl rfl ?_
   rintro u46 _ ⟨rfl, p47⟩
   refine Va (dx_loadP rfl ty_one_9 rfl p47) rfl rfl (Pu rfl (Pu rfl (Ni (hK43 (Sq fun K48 hK48 => (Rg (Pu rfl ?_)))))))
   refine Pu rfl ?_
   refine Ge (dx_cv rfl Try.func49 rfl rfl rfl (bsearchM_v gs r44 _ W38 _ hL hgs (by omega))) rfl rfl ?_
   rintro _ W50 ⟨rfl, b49⟩
   replace hnp := hnp.below b49
   replace hip := hip.below b49
   replace hcp := hcp.below b49
   replace hgs := hgs.below b49
   replace hag := hag.below b49
   replace hm := hm.below b49
   replace k3 := k3.below b49
   replace k8 := k8.below b49
   replace k34 := k34.below b49
   replace hB := below_then hB b49
   replace hL := LL.below hL b49
   refine Pu rfl (Pu rfl (Pu rfl (Pu rfl (Pu rfl (Ni (hK48 (Sq fun K51 hK51 => ?_)))))))
   refine Rg (Pu rfl (Va (dx_not rfl rfl) rfl rfl (Ni (hK51 ?_))))
   refine WC.cond rfl (fun c52 => ?_) (fun c52 => ?_)
   ·
    replace c52 := bnot_t c52
    refine Sq fun K53 hK53 => ?_
    obtain ⟨-, hm⟩ := hm
    have hnl := wnN_le gs (p.names.take i)
    have htl := wnT_len gs (p.names.take i) (p.items.take i) (by rw [List.length_take, List.length_take]; omega)
    rw [List.length_take] at hnl
    rcases hm with ⟨rfl, rfl, hns0, hts0⟩ | ⟨Bn, Bi, hni, hbn, hbi, hOn, hOi, hts⟩
    ·
     refine Rg (Va (dx_fld (o1 := 3) rfl ty_fld_26_3_3 rfl rfl) rfl rfl (Va (dx_load rfl ty_one_23 rfl (k34.cell (k := 3) rfl)) rfl rfl (Pu rfl ?_)))
     refine Ge (dx_lit1 (r := [.string r44]) rfl ty_ap_23 (by decide) (by decide) rfl rfl rfl) rfl rfl ?_
     rintro u58 W54 ⟨k55, b56, z57⟩
     have l62 := hB.size
     replace hnp := hnp.more b56 (Nat.le_refl _)
     replace hip := hip.more b56 (Nat.le_refl _)
     replace hcp := hcp.more b56 (Nat.le_refl _)
     replace hgs := hgs.more b56 (Nat.le_refl _)
     replace hag := hag.more b56 (Nat.le_refl _)
     replace k3 := k3.below b56
     replace k8 := k8.below b56
     replace k34 := k34.below b56
     replace hB := below_then hB b56
     replace hL := LL.more hL z57
     refine Ge (dx_apF (rs := []) (news := [eS r44]) rfl ty_ap_23 rfl rfl (RdF.nil (L := []) (by decide)) (k55.rd (L := []) (by simp)) (by simp) (by simp [maxLen]) (by simp)) rfl rfl ?_
     rintro u63 W64 ⟨k65, b66, z67⟩
     have q70 := hag.2.1
     have l71 : b0 ≤ W54.heap.size := by omega
     have n74 : W4_.heap.size ≠ W54.heap.size := Nat.ne_of_lt k34.lt
     have l76 := hB.size
     replace hnp := hnp.more b66 (Nat.le_refl _)
     replace hip := hip.more b66 (Nat.le_refl _)
     replace hcp := hcp.more b66 (Nat.le_refl _)
     replace hgs := hgs.more b66 (Nat.le_refl _)
     replace hag := hag.more b66 (Nat.le_refl _)
     replace k3 := k3.below b66
     replace k8 := k8.below b66
     replace k34 := k34.below b66
     replace hB := below_then hB b66
     replace hL := LL.more hL z67
     refine Va (dx_fld (o1 := 3) rfl ty_fld_26_3_3 rfl rfl) rfl rfl ?_
     refine WL.do (dx_store (cs' := [.int .i64 6, .int .i64 0, .string ⟨#[]⟩, u63, .slice none 0 0]) (vs := [u63]) rfl ty_size_23_1 rfl rfl (oc_one k65.one) (oc_cons k65.one oc_nil) k34 rfl (Nat.le_of_ble_eq_true rfl) rfl) rfl ?_
     rintro _ W77 ⟨k79, o78⟩
     replace k3 := k3.other o78 n29
     replace k8 := k8.other o78 n30
     replace k65 := k65.other o78 n74.symm
     clear k34
     replace hnp := hnp.only o78 (.tail _ (.tail _ (.head _)))
     replace hip := hip.only o78 (.tail _ (.tail _ (.head _)))
     replace hcp := hcp.only o78 (.tail _ (.tail _ (.head _)))
     replace hgs := hgs.only o78 (.tail _ (.tail _ (.head _)))
     replace hag := hag.only o78 (.tail _ (.tail _ (.head _)))
     replace hB := o78.below hB l31
     replace hL := LL.only hL o78
     refine Ni (hK53 ?_)
     obtain ⟨t80, ht81⟩ : ∃ x, p.items[i]? = some x := ⟨_, List.getElem?_eq_getElem (by omega)⟩
     have hot80 := (hcp t80 (List.mem_of_getElem? ht81))
     obtain ⟨hnt80, hit80, hct80⟩ : RdF 1 (W54.heap.size :: W50.heap.size :: W4_.heap.size :: W2.heap.size :: w.heap.size :: L) W77 t80.nv (t80.names.map eS) ∧ RdF 5 (W54.heap.size :: W50.heap.size :: W4_.heap.size :: W2.heap.size :: w.heap.size :: L) W77 t80.iv (t80.items.map encT) ∧ ∀ c ∈ t80.items, RdT n (W54.heap.size :: W50.heap.size :: W4_.heap.size :: W2.heap.size :: w.heap.size :: L) W77 c := by cases n with | zero => exact hot80.elim | succ n => exact ⟨hot80.1, hot80.2.1, fun c hc => (hot80.2.2 c hc).up⟩
     refine WC.drawM 8 [(some 42, .is (.pointer (some ⟨W4_.heap.size, 4, none⟩))), (some 43, .is (.slice none 0 0)), (some 44, .is (.pointer (some ⟨w.heap.size, 4, none⟩))), (some 45, .is (p.iv)), (some 46, .is (.int .i64 (i : Int))), (some 47, .by fun u W => PtR (W54.heap.size :: W50.heap.size :: W4_.heap.size :: W2.heap.size :: w.heap.size :: L) W u (encT t80)), (some 48, .is (.agg #[.int .i64 t80.kind, .int .i64 t80.num, .string t80.text, t80.nv, t80.iv])), (some 49, .by fun u W => RdF 5 (W54.heap.size :: W50.heap.size :: W4_.heap.size :: W2.heap.size :: w.heap.size :: L) W u [[.int .i64 t80.kind, .int .i64 t80.num, .string t80.text, t80.nv, t80.iv]])] [[], [0], [], [2], [], [3, 4], [5], [6]] (by kernel_rfl) (by kernel_rfl) (by kernel_rfl) (by kernel_rfl) (by kernel_rfl) (by kernel_rfl) (by kernel_rfl) ⟨fun _ _ _ hb h => h.below hb, fun _ _ _ hb h => h.below hb, trivial⟩ ?_ ?_
     ·
      refine Dc (fun Wd hd => ?_) ?_
      ·
       exact Dd (dx_fld (o1 := 4) rfl ty_fld_26_4_4 rfl rfl) rfl
      refine Dc (fun Wd hd => ?_) ?_
      ·
       have k79 := k79.below hd
       exact Dd (dx_load rfl ty_one_24 rfl (k79.cell (k := 4) rfl)) rfl
      refine Dc (fun Wd hd => ?_) ?_
      ·
       exact Dd (dx_fld (o1 := 4) rfl ty_fld_26_4_4 rfl rfl) rfl
      refine Dc (fun Wd hd => ?_) ?_
      ·
       have k3 := k3.below hd
       exact Dd (dx_load rfl ty_one_24 rfl (k3.cell (k := 4) rfl)) rfl
      refine Dc (fun Wd hd => ?_) ?_
      ·
       exact Dd (dx_move rfl rfl) rfl
      refine Dc (fun Wd hd => ?_) ?_
      ·
       have hip := hip.below hd
       exact (dx_idxF i rfl ty_slice_24 rfl rfl hip (by omega) (at_mapX ht81)).mono (fun v W' h => ⟨by rw [← h.1]; exact Below.refl _ _, by rw [← h.1]; exact h.2⟩)
      refine Dc (fun Wd hd => ?_) ?_
      ·
       intro u12_5 p12_5
       exact Dd (dx_loadPN rfl ty_agg_26_5 rfl p12_5 rfl) rfl
      refine Dc (fun Wd hd => ?_) ?_
      ·
       exact (dx_lit1 (r := [.int .i64 t80.kind, .int .i64 t80.num, .string t80.text, t80.nv, t80.iv]) rfl ty_ap_24 (by decide) (by decide) rfl rfl rfl).mono (fun v W' h => ⟨h.2.1, h.1.notin (LL.below hL hd) (Nat.le_refl _)⟩)
      exact trivial
     ·
      intro W82 b83
      intro u12_5 p12_5
      intro u12_7 p12_7
      replace hnp := hnp.below b83
      replace hip := hip.below b83
      replace hcp := hcp.below b83
      replace hgs := hgs.below b83
      replace hag := hag.below b83
      replace k3 := k3.below b83
      replace k8 := k8.below b83
      replace k79 := k79.below b83
      replace k65 := k65.below b83
      replace hB := below_then hB b83
      replace hL := LL.below hL b83
      refine Ge (dx_apF (rs := []) (news := [encT t80]) rfl ty_ap_24 rfl rfl (RdF.nil (L := []) (by decide)) (RdF.less (L' := []) p12_7 (fun x hx => by cases hx)) (by simp) (by simp [maxLen]) (by simp)) rfl rfl ?_
      rintro u84 W85 ⟨k86, b87, z88⟩
      have q91 := hag.2.1
      have l92 : b0 ≤ W82.heap.size := by omega
      have n95 : W4_.heap.size ≠ W82.heap.size := Nat.ne_of_lt k79.lt
      have n97 : W54.heap.size ≠ W82.heap.size := Nat.ne_of_lt k65.lt
      have l98 := hB.size
      replace hnp := hnp.more b87 (Nat.le_refl _)
      replace hip := hip.more b87 (Nat.le_refl _)
      replace hcp := hcp.more b87 (Nat.le_refl _)
      replace hgs := hgs.more b87 (Nat.le_refl _)
      replace hag := hag.more b87 (Nat.le_refl _)
      replace k3 := k3.below b87
      replace k8 := k8.below b87
      replace k79 := k79.below b87
      replace k65 := k65.below b87
      replace hB := below_then hB b87
      replace hL := LL.more hL z88
      refine Va (dx_fld (o1 := 4) rfl ty_fld_26_4_4 rfl rfl) rfl rfl ?_
      refine WL.do (dx_store (cs' := [.int .i64 6, .int .i64 0, .string ⟨#[]⟩, u63, u84]) (vs := [u84]) rfl ty_size_24_1 rfl rfl (oc_one k86.one) (oc_cons k86.one oc_nil) k79 rfl (Nat.le_of_ble_eq_true rfl) rfl) rfl ?_
      rintro _ W99 ⟨k101, o100⟩
      replace k3 := k3.other o100 n29
      replace k8 := k8.other o100 n30
      replace k65 := k65.other o100 n74.symm
      replace k86 := k86.other o100 n95.symm
      clear k79
      replace hnp := hnp.only o100 (.tail _ (.tail _ (.tail _ (.head _))))
      replace hip := hip.only o100 (.tail _ (.tail _ (.tail _ (.head _))))
      replace hcp := hcp.only o100 (.tail _ (.tail _ (.tail _ (.head _))))
      replace hgs := hgs.only o100 (.tail _ (.tail _ (.tail _ (.head _))))
      replace hag := hag.only o100 (.tail _ (.tail _ (.tail _ (.head _))))
      replace hB := o100.below hB l31
      replace hL := LL.only hL o100
      refine Ni (hK42 (Rg (Va (dx_add (r := (i : Int) + 1) rfl rfl rfl (wrap64_id (by omega))) rfl rfl (Pu rfl (Ni ?_)))))
      have hm2 : MembI n b0 (W4_.heap.size :: W2.heap.size :: w.heap.size :: L) u63 [r44] u84 [t80] W99 := ⟨hb0L, .inr ⟨W54.heap.size, W82.heap.size, n97, by omega, by omega, k65, k86, (fun c hc_ => by rw [List.mem_singleton.1 hc_]; exact (hcp t80 (List.mem_of_getElem? ht81)).less (fun x hx => by simp only [List.mem_cons] at hx ⊢; rcases hx with h_ | h_ | h_ <;> simp [h_]))⟩⟩
      rw [show [r44] = (wnN gs (p.names.take i)) ++ [r44] from by rw [hns0]; rfl, show [t80] = (wnT gs (p.names.take i) (p.items.take i)) ++ [t80] from by rw [hts0]; rfl] at hm2
      rw [← wnN_add e45 c52, ← wnT_add e45 ht81 c52] at hm2
      have hL_ := hL.less (fun x hx => (.tail _ (.tail _ (.tail _ hx))))
      replace hag : AgL W32 (W4_.heap.size :: W2.heap.size :: w.heap.size :: L) (W4_.heap.size :: W2.heap.size :: w.heap.size :: L) W99 := ⟨fun _ h _ => h, hag.2⟩
      replace hnp := hnp6.agree hag.2
      replace hip := hip6.agree hag.2
      replace hgs := hgs6.agree hag.2
      replace hcp : RdTs n (W4_.heap.size :: W2.heap.size :: w.heap.size :: L) W99 p.items := fun c hc_ => (hcp6 c hc_).agree hag.2
      replace hL := hL_
      exact hK37 (i + 1) u63 u84 ⟨(by omega), hB, hL, hnp, hip, hcp, hgs, hag, hm2, k3, k8, k101⟩ (by omega) (by repeat first | exact trivial | exact And.intro rfl trivial | refine And.intro rfl ?_ | refine And.intro (congrArg (fun z : Int => some (Value.int .i64 z)) (by omega)) ?_ | refine And.intro (congrArg (fun z : Bool => some (Value.bool z)) (by first | exact (decide_eq_true (by omega)).symm | exact (decide_eq_false (by omega)).symm)) ?_)
    ·
     have n102 : Bn ≠ w.heap.size := by have := hb0L (w.heap.size) (.tail _ (.tail _ (.head _))); omega
     have n103 : Bi ≠ w.heap.size := by have := hb0L (w.heap.size) (.tail _ (.tail _ (.head _))); omega
     have n104 : Bn ≠ W2.heap.size := by have := hb0L (W2.heap.size) (.tail _ (.head _)); omega
     have n105 : Bi ≠ W2.heap.size := by have := hb0L (W2.heap.size) (.tail _ (.head _)); omega
     have n106 : Bn ≠ W4_.heap.size := by have := hb0L (W4_.heap.size) (.head _); omega
     have n107 : Bi ≠ W4_.heap.size := by have := hb0L (W4_.heap.size) (.head _); omega
     have lbn : w.heap.size ≤ Bn := by omega
     have lbi : w.heap.size ≤ Bi := by omega
     replace hag := (hag.add (B := Bi) (by omega)).add (B := Bn) (by omega)
     replace hL := LL.cons (LL.cons hL hOi.lt) hOn.lt
     replace hnp := hag.rd hnp6
     replace hip := hag.rd hip6
     replace hgs := hag.rd hgs6
     replace hcp : RdTs n (Bn :: Bi :: W4_.heap.size :: W2.heap.size :: w.heap.size :: L) W50 p.items := fun c hc_ => hag.rt (hcp6 c hc_)
     refine Rg (Va (dx_fld (o1 := 3) rfl ty_fld_26_3_3 rfl rfl) rfl rfl (Va (dx_load rfl ty_one_23 rfl (k34.cell (k := 3) rfl)) rfl rfl (Pu rfl ?_)))
     refine Ge (dx_lit1 (r := [.string r44]) rfl ty_ap_23 (by decide) (by decide) rfl rfl rfl) rfl rfl ?_
     rintro u112 W108 ⟨k109, b110, z111⟩
     have l118 := hB.size
     replace hnp := hnp.more b110 (Nat.le_refl _)
     replace hip := hip.more b110 (Nat.le_refl _)
     replace hcp := hcp.more b110 (Nat.le_refl _)
     replace hgs := hgs.more b110 (Nat.le_refl _)
     replace hag := hag.more b110 (Nat.le_refl _)
     replace hts := hts.more b110 (Nat.le_refl _)
     replace k3 := k3.below b110
     replace k8 := k8.below b110
     replace k34 := k34.below b110
     replace hOn := hOn.below b110
     replace hOi := hOi.below b110
     replace hB := below_then hB b110
     replace hL := LL.more hL z111
     refine Ge (dx_apO' (rs := ((wnN gs (p.names.take i)).map eS)) (news := [eS r44]) rfl ty_ap_23 rfl rfl hOn (k109.rd (L := []) (by simp)) (fun r hr => by rw [List.mem_singleton.1 hr]; exact (oc_cons rfl oc_nil)) (by simp only [List.length_map, List.length_append, List.length_cons, List.length_nil]; unfold maxLen; omega) (by simp only [List.length_map, List.length_append, List.length_cons, List.length_nil]; omega)) rfl rfl ?_
     rintro u119 W120 ⟨B125, k121, g124⟩
     rw [show ((wnN gs (p.names.take i)).map eS) ++ [eS r44] = (((wnN gs (p.names.take i)) ++ [r44]).map eS) from by simp only [List.map_append, List.map_cons, List.map_nil]] at k121
     have q127 := hag.2.1
     have l128 : b0 ≤ B125 := g124.le hbn (by omega)
     have n131 : W4_.heap.size ≠ B125 := k34.grow_ne g124 n106.symm
     have n132 : Bi ≠ B125 := hOi.grow_ne g124 hni.symm
     have l126 := g124.le lbn hB.size
     replace hnp := hnp.grow' g124 (.tail _ (.head _))
     replace hip := hip.grow' g124 (.tail _ (.head _))
     replace hcp := hcp.grow' g124 (.tail _ (.head _))
     replace hgs := hgs.grow' g124 (.tail _ (.head _))
     replace hag := hag.grow' g124 (.tail _ (.head _))
     replace hts := hts.grow' g124 (.tail _ (.head _))
     replace k3 := k3.grow g124 n102.symm
     replace k8 := k8.grow g124 n104.symm
     replace k34 := k34.grow g124 n106.symm
     replace hOi := hOi.grow g124 hni.symm
     replace hB := g124.below hB lbn hB.size
     replace hL := LL.grow hL g124 k121.lt
     refine Va (dx_fld (o1 := 3) rfl ty_fld_26_3_3 rfl rfl) rfl rfl ?_
     refine WL.do (dx_store (cs' := [.int .i64 6, .int .i64 0, .string ⟨#[]⟩, u119, iv]) (vs := [u119]) rfl ty_size_23_1 rfl rfl (oc_one k121.one) (oc_cons k121.one oc_nil) k34 rfl (Nat.le_of_ble_eq_true rfl) rfl) rfl ?_
     rintro _ W134 ⟨k136, o135⟩
     replace k3 := k3.other o135 n29
     replace k8 := k8.other o135 n30
     replace hOi := hOi.other o135 n107
     replace k121 := k121.other o135 n131.symm
     clear k34
     replace hnp := hnp.only o135 (.tail _ (.tail _ (.tail _ (.tail _ (.head _)))))
     replace hip := hip.only o135 (.tail _ (.tail _ (.tail _ (.tail _ (.head _)))))
     replace hcp := hcp.only o135 (.tail _ (.tail _ (.tail _ (.tail _ (.head _)))))
     replace hgs := hgs.only o135 (.tail _ (.tail _ (.tail _ (.tail _ (.head _)))))
     replace hag := hag.only o135 (.tail _ (.tail _ (.tail _ (.tail _ (.head _)))))
     replace hts := hts.only o135 (.tail _ (.tail _ (.tail _ (.tail _ (.head _)))))
     replace hB := o135.below hB l31
     replace hL := LL.only hL o135
     refine Ni (hK53 ?_)
     obtain ⟨t137, ht138⟩ : ∃ x, p.items[i]? = some x := ⟨_, List.getElem?_eq_getElem (by omega)⟩
     have hot137 := (hcp t137 (List.mem_of_getElem? ht138))
     obtain ⟨hnt137, hit137, hct137⟩ : RdF 1 (B125 :: W50.heap.size :: Bn :: Bi :: W4_.heap.size :: W2.heap.size :: w.heap.size :: L) W134 t137.nv (t137.names.map eS) ∧ RdF 5 (B125 :: W50.heap.size :: Bn :: Bi :: W4_.heap.size :: W2.heap.size :: w.heap.size :: L) W134 t137.iv (t137.items.map encT) ∧ ∀ c ∈ t137.items, RdT n (B125 :: W50.heap.size :: Bn :: Bi :: W4_.heap.size :: W2.heap.size :: w.heap.size :: L) W134 c := by cases n with | zero => exact hot137.elim | succ n => exact ⟨hot137.1, hot137.2.1, fun c hc => (hot137.2.2 c hc).up⟩
     refine WC.drawM 8 [(some 42, .is (.pointer (some ⟨W4_.heap.size, 4, none⟩))), (some 43, .is (iv)), (some 44, .is (.pointer (some ⟨w.heap.size, 4, none⟩))), (some 45, .is (p.iv)), (some 46, .is (.int .i64 (i : Int))), (some 47, .by fun u W => PtR (B125 :: W50.heap.size :: Bn :: Bi :: W4_.heap.size :: W2.heap.size :: w.heap.size :: L) W u (encT t137)), (some 48, .is (.agg #[.int .i64 t137.kind, .int .i64 t137.num, .string t137.text, t137.nv, t137.iv])), (some 49, .by fun u W => RdF 5 (B125 :: W50.heap.size :: Bn :: Bi :: W4_.heap.size :: W2.heap.size :: w.heap.size :: L) W u [[.int .i64 t137.kind, .int .i64 t137.num, .string t137.text, t137.nv, t137.iv]])] [[], [0], [], [2], [], [3, 4], [5], [6]] (by kernel_rfl) (by kernel_rfl) (by kernel_rfl) (by kernel_rfl) (by kernel_rfl) (by kernel_rfl) (by kernel_rfl) ⟨fun _ _ _ hb h => h.below hb, fun _ _ _ hb h => h.below hb, trivial⟩ ?_ ?_
     ·
      refine Dc (fun Wd hd => ?_) ?_
      ·
       exact Dd (dx_fld (o1 := 4) rfl ty_fld_26_4_4 rfl rfl) rfl
      refine Dc (fun Wd hd => ?_) ?_
      ·
       have k136 := k136.below hd
       exact Dd (dx_load rfl ty_one_24 rfl (k136.cell (k := 4) rfl)) rfl
      refine Dc (fun Wd hd => ?_) ?_
      ·
       exact Dd (dx_fld (o1 := 4) rfl ty_fld_26_4_4 rfl rfl) rfl
      refine Dc (fun Wd hd => ?_) ?_
      ·
       have k3 := k3.below hd
       exact Dd (dx_load rfl ty_one_24 rfl (k3.cell (k := 4) rfl)) rfl
      refine Dc (fun Wd hd => ?_) ?_
      ·
       exact Dd (dx_move rfl rfl) rfl
      refine Dc (fun Wd hd => ?_) ?_
      ·
       have hip := hip.below hd
       exact (dx_idxF i rfl ty_slice_24 rfl rfl hip (by omega) (at_mapX ht138)).mono (fun v W' h => ⟨by rw [← h.1]; exact Below.refl _ _, by rw [← h.1]; exact h.2⟩)
      refine Dc (fun Wd hd => ?_) ?_
      ·
       intro u12_5 p12_5
       exact Dd (dx_loadPN rfl ty_agg_26_5 rfl p12_5 rfl) rfl
      refine Dc (fun Wd hd => ?_) ?_
      ·
       exact (dx_lit1 (r := [.int .i64 t137.kind, .int .i64 t137.num, .string t137.text, t137.nv, t137.iv]) rfl ty_ap_24 (by decide) (by decide) rfl rfl rfl).mono (fun v W' h => ⟨h.2.1, h.1.notin (LL.below hL hd) (Nat.le_refl _)⟩)
      exact trivial
     ·
      intro W139 b140
      intro u12_5 p12_5
      intro u12_7 p12_7
      replace hnp := hnp.below b140
      replace hip := hip.below b140
      replace hcp := hcp.below b140
      replace hgs := hgs.below b140
      replace hag := hag.below b140
      replace hts := hts.below b140
      replace k3 := k3.below b140
      replace k8 := k8.below b140
      replace k136 := k136.below b140
      replace hOi := hOi.below b140
      replace k121 := k121.below b140
      replace hB := below_then hB b140
      replace hL := LL.below hL b140
      refine Ge (dx_apO' (rs := ((wnT gs (p.names.take i) (p.items.take i)).map encT)) (news := [encT t137]) rfl ty_ap_24 rfl rfl hOi (RdF.less (L' := []) p12_7 (fun x hx => by cases hx)) (fun r hr => by rw [List.mem_singleton.1 hr]; exact (hcp t137 (List.mem_of_getElem? ht138)).oc) (by simp only [List.length_map, List.length_append, List.length_cons, List.length_nil]; unfold maxLen; omega) (by simp only [List.length_map, List.length_append, List.length_cons, List.length_nil]; omega)) rfl rfl ?_
      rintro u141 W142 ⟨B147, k143, g146⟩
      rw [show ((wnT gs (p.names.take i) (p.items.take i)).map encT) ++ [encT t137] = (((wnT gs (p.names.take i) (p.items.take i)) ++ [t137]).map encT) from by simp only [List.map_append, List.map_cons, List.map_nil]] at k143
      have q149 := hag.2.1
      have l150 : b0 ≤ B147 := g146.le hbi (by omega)
      have n153 : W4_.heap.size ≠ B147 := k136.grow_ne g146 n107.symm
      have n155 : B125 ≠ B147 := k121.grow_ne g146 n132.symm
      have l148 := g146.le lbi hB.size
      replace hnp := hnp.grow' g146 (.tail _ (.tail _ (.tail _ (.head _))))
      replace hip := hip.grow' g146 (.tail _ (.tail _ (.tail _ (.head _))))
      replace hcp := hcp.grow' g146 (.tail _ (.tail _ (.tail _ (.head _))))
      replace hgs := hgs.grow' g146 (.tail _ (.tail _ (.tail _ (.head _))))
      replace hag := hag.grow' g146 (.tail _ (.tail _ (.tail _ (.head _))))
      replace hts := hts.grow' g146 (.tail _ (.tail _ (.tail _ (.head _))))
      replace k3 := k3.grow g146 n103.symm
      replace k8 := k8.grow g146 n105.symm
      replace k136 := k136.grow g146 n107.symm
      replace k121 := k121.grow g146 n132.symm
      replace hB := g146.below hB lbi hB.size
      replace hL := LL.grow hL g146 k143.lt
      refine Va (dx_fld (o1 := 4) rfl ty_fld_26_4_4 rfl rfl) rfl rfl ?_
      refine WL.do (dx_store (cs' := [.int .i64 6, .int .i64 0, .string ⟨#[]⟩, u119, u141]) (vs := [u141]) rfl ty_size_24_1 rfl rfl (oc_one k143.one) (oc_cons k143.one oc_nil) k136 rfl (Nat.le_of_ble_eq_true rfl) rfl) rfl ?_
      rintro _ W156 ⟨k158, o157⟩
      replace k3 := k3.other o157 n29
      replace k8 := k8.other o157 n30
      replace k121 := k121.other o157 n131.symm
      replace k143 := k143.other o157 n153.symm
      clear k136
      replace hnp := hnp.only o157 (.tail _ (.tail _ (.tail _ (.tail _ (.tail _ (.head _))))))
      replace hip := hip.only o157 (.tail _ (.tail _ (.tail _ (.tail _ (.tail _ (.head _))))))
      replace hcp := hcp.only o157 (.tail _ (.tail _ (.tail _ (.tail _ (.tail _ (.head _))))))
      replace hgs := hgs.only o157 (.tail _ (.tail _ (.tail _ (.tail _ (.tail _ (.head _))))))
      replace hag := hag.only o157 (.tail _ (.tail _ (.tail _ (.tail _ (.tail _ (.head _))))))
      replace hts := hts.only o157 (.tail _ (.tail _ (.tail _ (.tail _ (.tail _ (.head _))))))
      replace hB := o157.below hB l31
      replace hL := LL.only hL o157
      refine Ni (hK42 (Rg (Va (dx_add (r := (i : Int) + 1) rfl rfl rfl (wrap64_id (by omega))) rfl rfl (Pu rfl (Ni ?_)))))
      have hm2 : MembI n b0 (W4_.heap.size :: W2.heap.size :: w.heap.size :: L) u119 ((wnN gs (p.names.take i)) ++ [r44]) u141 ((wnT gs (p.names.take i) (p.items.take i)) ++ [t137]) W156 := ⟨hb0L, .inr ⟨B125, B147, n155, by omega, by omega, k121, k143, (fun c hc_ => by rcases List.mem_append.1 hc_ with h_ | h_; exact (hts c h_).less (fun x hx => by simp only [List.mem_cons] at hx ⊢; rcases hx with h_ | h_ | h_ <;> simp [h_]); (rw [List.mem_singleton.1 h_]; exact (hcp t137 (List.mem_of_getElem? ht138)).less (fun x hx => by simp only [List.mem_cons] at hx ⊢; rcases hx with h_ | h_ | h_ <;> simp [h_])))⟩⟩
      rw [← wnN_add e45 c52, ← wnT_add e45 ht138 c52] at hm2
      have hL_ := hL.less (fun x hx => (.tail _ (.tail _ (.tail _ (.tail _ (.tail _ hx))))))
      replace hag : AgL W32 (W4_.heap.size :: W2.heap.size :: w.heap.size :: L) (W4_.heap.size :: W2.heap.size :: w.heap.size :: L) W156 := ⟨fun _ h _ => h, hag.2⟩
      replace hnp := hnp6.agree hag.2
      replace hip := hip6.agree hag.2
      replace hgs := hgs6.agree hag.2
      replace hcp : RdTs n (W4_.heap.size :: W2.heap.size :: w.heap.size :: L) W156 p.items := fun c hc_ => (hcp6 c hc_).agree hag.2
      replace hL := hL_
      exact hK37 (i + 1) u119 u141 ⟨(by omega), hB, hL, hnp, hip, hcp, hgs, hag, hm2, k3, k8, k158⟩ (by omega) (by repeat first | exact trivial | exact And.intro rfl trivial | refine And.intro rfl ?_ | refine And.intro (congrArg (fun z : Int => some (Value.int .i64 z)) (by omega)) ?_ | refine And.intro (congrArg (fun z : Bool => some (Value.bool z)) (by first | exact (decide_eq_true (by omega)).symm | exact (decide_eq_false (by omega)).symm)) ?_)
   ·
    replace c52 := bnot_f c52
    refine WC.skip (hK42 (Rg (Va (dx_add (r := (i : Int) + 1) rfl rfl rfl (wrap64_id (by omega))) rfl rfl (Pu rfl (Ni ?_)))))
    obtain ⟨t_, ht_⟩ : ∃ x, p.items[i]? = some x := ⟨_, List.getElem?_eq_getElem (by omega)⟩
    rw [← wnN_no e45 c52, ← wnT_no e45 ht_ c52] at hm
    exact hK37 (i + 1) nv iv ⟨(by omega), hB, hL, hnp, hip, hcp, hgs, hag, hm, k3, k8, k34⟩ (by omega) (by repeat first | exact trivial | exact And.intro rfl trivial | refine And.intro rfl ?_ | refine And.intro (congrArg (fun z : Int => some (Value.int .i64 z)) (by omega)) ?_ | refine And.intro (congrArg (fun z : Bool => some (Value.bool z)) (by first | exact (decide_eq_true (by omega)).symm | exact (decide_eq_false (by omega)).symm)) ?_)
  ·
   replace c41 := dF c41
   refine WC.exit ?_
   refine hK35 (Sq fun K159 hK159 => (Rg (Va (dx_loadN rfl ty_agg_26_5 rfl k34.range rfl) rfl rfl ?_)))
   refine WL.do (dx_store (cs' := [.int .i64 6, .int .i64 0, .string ⟨#[]⟩, nv, iv]) (vs := [.int .i64 6, .int .i64 0, .string ⟨#[]⟩, nv, iv]) rfl ty_size_26_5 rfl rfl rfl (oc_cons rfl (oc_cons rfl (oc_cons rfl (oc_cons hm.one.1 (oc_cons hm.one.2 oc_nil))))) k8 rfl (Nat.le_of_ble_eq_true rfl) rfl) rfl ?_
   rintro _ W160 ⟨k162, o161⟩
   clear k8
   replace hm := hm.only o161 (.tail _ (.head _))
   replace hB := o161.below hB l12
   refine Ni (hK159 ?_)
   exact WC.ret fun a_ ha_ => hQ (cv_ret1 rfl (.agg rfl ty_agg_26_5 k162.range rfl) (by have hie : i = p.names.length := (by omega); rw [hie, List.take_of_length_le (Nat.le_refl _), List.take_of_length_le (show p.items.length ≤ p.names.length by omega)] at hm; exact ⟨.mk 6 0 ⟨#[]⟩ nv (wnN gs p.names) iv (wnT gs p.names p.items), rfl, (by rw [Tr.er_mk]; unfold withoutJ; rw [if_pos hro, er_names, er_items, wnT_map]), hm.tree (fun x hx => (.tail _ (.tail _ (.tail _ hx)))) 6 0 ⟨#[]⟩⟩) hB ha_)

theorem rises_uniq {l : List ByteArray} (h : Rises l) {i j : Nat} {a : ByteArray} (hi : l[i]? = some a) (hj : l[j]? = some a) : i = j := by
 rcases Nat.lt_trichotomy i j with h1 | h1 | h1
 · have := rises_less h h1 hi hj; rw [sless_irrefl] at this; cases this
 · exact h1
 · have := rises_less h h1 hj hi; rw [sless_irrefl] at this; cases this
theorem insA_at {α : Type} {i : Nat} {x : α} {l : List α} (h : i ≤ l.length) : (insA i x l)[i]? = some x := by
 unfold insA
 rw [List.getElem?_append_right (by rw [List.length_take]; omega), List.length_take, show i - min i l.length = 0 by omega]
 rfl
theorem insA_lt {α : Type} {i k : Nat} {x : α} {l : List α} (h : i ≤ l.length) (hk : k < i) : (insA i x l)[k]? = l[k]? := by
 unfold insA
 rw [List.getElem?_append_left (by rw [List.length_take]; omega), List.getElem?_take, if_pos hk]
theorem insA_ge {α : Type} {i k : Nat} {x : α} {l : List α} (h : i ≤ l.length) (hk : i ≤ k) : (insA i x l)[k + 1]? = l[k]? := by
 unfold insA
 rw [List.getElem?_append_right (by rw [List.length_take]; omega), List.length_take, show k + 1 - min i l.length = (k - i) + 1 by omega, List.singleton_append, List.getElem?_cons_succ, List.getElem?_drop]
 congr 1; omega
def SzJ (m : Nat) : Nat → Js → Prop
 | 0, _ => False
 | n + 1, j => j.text.size ≤ m ∧ j.names.length ≤ m ∧ j.items.length ≤ m ∧ (∀ s ∈ j.names, s.size ≤ m) ∧ ∀ c ∈ j.items, SzJ m n c
theorem SzJ.le {m m' : Nat} (hm : m ≤ m') : ∀ {n : Nat} {j : Js}, SzJ m n j → SzJ m' n j
 | 0, _, h => h
 | _ + 1, _, h => ⟨Nat.le_trans h.1 hm, Nat.le_trans h.2.1 hm, Nat.le_trans h.2.2.1 hm, fun s hs => Nat.le_trans (h.2.2.2.1 s hs) hm, fun c hc => (h.2.2.2.2 c hc).le hm⟩
theorem SzJ.up {m : Nat} : ∀ {n : Nat} {j : Js}, SzJ m n j → SzJ m (n + 1) j
 | 0, _, h => h.elim
 | _ + 1, _, h => ⟨h.1, h.2.1, h.2.2.1, h.2.2.2.1, fun c hc => (h.2.2.2.2 c hc).up⟩
theorem alikeE_v (n : Nat) (a b : Tr) (w : World) (L : List Nat) (hL : LL L w) (h1 : RdT (n + 1) L w a) (h2 : RdT (n + 1) L w b) (h : a.er = b.er) : CV Try.prog 14 [.agg #[.int .i64 a.kind, .int .i64 a.num, .string a.text, a.nv, a.iv], .agg #[.int .i64 b.kind, .int .i64 b.num, .string b.text, b.nv, b.iv]] w fun v W => v = .bool true := by
 have e := alike_v n a b w L hL h1 h2
 rw [eqJ_t h] at e
 exact e
theorem withK_v (n : Nat) (p q : Tr) (name : ByteArray) (j : Js) (w : World) (L : List Nat) (hL : LL L w) (h1 : RdT (n + 1) L w p) (h2 : RdT (n + 1) L w q) (z1 : SzT 1000000 (n + 1) p) (z2 : SzT 1000000 (n + 1) q) (z3 : name.size ≤ 1000000) (h : withJ p.er name q.er = .ok j) : CV Try.prog 24 [.agg #[.int .i64 p.kind, .int .i64 p.num, .string p.text, p.nv, p.iv], .string name, .agg #[.int .i64 q.kind, .int .i64 q.num, .string q.text, q.nv, q.iv]] w fun v W => ∃ t, v = .tuple #[.agg #[.int .i64 t.kind, .int .i64 t.num, .string t.text, t.nv, t.iv], .int .i64 0] ∧ t.er = j ∧ RdT (n + 1 + 1) L W t :=
 (jWith_v n p q name w L hL h1 h2 z1 z2 z3).mono fun v W _ k => by
  rcases k with ⟨t, e1, e2, e3⟩ | ⟨e, _, _, e2⟩
  · rw [h] at e2; exact ⟨t, e1, (Except.ok.inj e2).symm, e3⟩
  · rw [h] at e2; cases e2
theorem withX_v (n : Nat) (p q : Tr) (name : ByteArray) (c : Int) (w : World) (L : List Nat) (hL : LL L w) (h1 : RdT (n + 1) L w p) (h2 : RdT (n + 1) L w q) (z1 : SzT 1000000 (n + 1) p) (z2 : SzT 1000000 (n + 1) q) (z3 : name.size ≤ 1000000) (h : withJ p.er name q.er = .error c) : CV Try.prog 24 [.agg #[.int .i64 p.kind, .int .i64 p.num, .string p.text, p.nv, p.iv], .string name, .agg #[.int .i64 q.kind, .int .i64 q.num, .string q.text, q.nv, q.iv]] w fun v W => v = .tuple #[.agg #[.int .i64 0, .int .i64 0, .string ⟨#[]⟩, .slice none 0 0, .slice none 0 0], .int .i64 c] :=
 (jWith_v n p q name w L hL h1 h2 z1 z2 z3).mono fun v W _ k => by
  rcases k with ⟨t, e1, e2, e3⟩ | ⟨e, e1, _, e2⟩
  · rw [h] at e2; cases e2
  · rw [h] at e2; rw [Except.error.inj e2]; exact e1
section
variable {P : Program} {N : Nat} {Q : Exit → Act → World → Prop} {f : Fl} {w : World}
theorem WC.loop4 {α β γ δ : Type} {c : Code} (fr : α → β → γ → δ → Fl) (I : α → β → γ → δ → World → Prop) (μ : α → β → γ → δ → Nat) (a0 : α) (b0 : β) (c0 : γ) (d0 : δ) (hs : Sub (fr a0 b0 c0 d0) f) (h0 : I a0 b0 c0 d0 w)
  (round : ∀ (K : Act → World → Prop) a b c' d w, I a b c' d w → (∀ {f' w'} (a' : α) (b' : β) (c'' : γ) (d' : δ), I a' b' c'' d' w' → μ a' b' c'' d' < μ a b c' d → Sub (fr a' b' c'' d') f' → ∀ x, Fr N x f' → K x w') → WC P N c (Exit.then K Q) (fr a b c' d) w) : WC P N (.loop c) Q f w :=
 WC.loop (σ := α × β × γ × δ) (fun s => fr s.1 s.2.1 s.2.2.1 s.2.2.2) (fun s => I s.1 s.2.1 s.2.2.1 s.2.2.2) (fun s => μ s.1 s.2.1 s.2.2.1 s.2.2.2) (a0, b0, c0, d0) hs h0 fun K s w hI hK => round K s.1 s.2.1 s.2.2.1 s.2.2.2 w hI fun a' b' c' d' h1 h2 h3 => hK (a', b', c', d') h1 h2 h3
end
theorem take_add {α : Type} {l : List α} {k : Nat} {x : α} (h : l[k]? = some x) : l.take k ++ [x] = l.take (k + 1) := by rw [List.take_add_one, h]; rfl
def putN (ns : List ByteArray) (nm : ByteArray) : List ByteArray := if ns[lbT nm ns]? = some nm then ns else insA (lbT nm ns) nm ns
def putT {α : Type} (ns : List ByteArray) (nm : ByteArray) (ts : List α) (x : α) : List α := if ns[lbT nm ns]? = some nm then ts.set (lbT nm ns) x else insA (lbT nm ns) x ts
theorem putJ_eq (j : Js) (nm : ByteArray) (x : Js) : putJ j nm x = .mk 6 0 ⟨#[]⟩ (putN j.names nm) (putT j.names nm j.items x) := by
 unfold putJ putN putT
 split <;> rfl
theorem putT_map {α β : Type} (f : α → β) (ns : List ByteArray) (nm : ByteArray) (ts : List α) (x : α) : (putT ns nm ts x).map f = putT ns nm (ts.map f) (f x) := by
 unfold putT
 split
 · rw [List.map_set]
 · rw [insA_map]
def putC (ns : List ByteArray) (nm : ByteArray) : Nat := if ns[lbT nm ns]? = some nm then 0 else 1
section
variable {α : Type} {ns : List ByteArray} {nm b : ByteArray} {ts : List α} {x t : α} {i : Nat}
theorem putC_le : putC ns nm ≤ 1 := by unfold putC; split <;> omega
theorem putN_len : (putN ns nm).length = ns.length + putC ns nm := by
 unfold putN putC
 split
 · rfl
 · exact insA_len (lbT_le _ _)
theorem putT_len (hl : ns.length = ts.length) : (putT ns nm ts x).length = ns.length + putC ns nm := by
 have := lbT_le nm ns
 unfold putT putC
 split
 · rw [List.length_set]; omega
 · rw [insA_len (by omega)]; omega
theorem putN_a : (putN ns nm)[lbT nm ns]? = some nm := by
 unfold putN
 split
 · rename_i h; exact h
 · exact insA_at (lbT_le _ _)
theorem putT_a (hl : ns.length = ts.length) : (putT ns nm ts x)[lbT nm ns]? = some x := by
  have := lbT_le nm ns
  unfold putT
  split
  · rename_i h
    have := (List.getElem?_eq_some_iff.1 h).1
    exact List.getElem?_set_self (by omega)
  · exact insA_at (by omega)
theorem putN_lt (h : i < lbT nm ns) : (putN ns nm)[i]? = ns[i]? := by
 unfold putN
 split
 · rfl
 · exact insA_lt (lbT_le _ _) h
theorem putT_lt (hl : ns.length = ts.length) (h : i < lbT nm ns) : (putT ns nm ts x)[i]? = ts[i]? := by
 have := lbT_le nm ns
 unfold putT
 split
 · exact List.getElem?_set_ne (by omega)
 · exact insA_lt (by omega) h
theorem putN_ge (h : lbT nm ns ≤ i) (hb : ns[i]? = some b) (hne : ¬ b = nm) : (putN ns nm)[i + putC ns nm]? = some b := by
  unfold putN putC
  split
  · exact hb
  · show (insA _ _ _)[i + 1]? = _
    rw [insA_ge (lbT_le _ _) h]; exact hb
theorem putT_ge (hl : ns.length = ts.length) (h : lbT nm ns ≤ i) (hb : ns[i]? = some b) (hne : ¬ b = nm) (ht : ts[i]? = some t) : (putT ns nm ts x)[i + putC ns nm]? = some t := by
  have := lbT_le nm ns
  unfold putT putC
  split
  · rename_i hf
    rw [Nat.add_zero, List.getElem?_set_ne (fun e => by rw [e, hb] at hf; exact hne (Option.some.inj hf))]; exact ht
  · rw [insA_ge (by omega) h]; exact ht
theorem putC_found (hr : Rises ns) (hb : ns[i]? = some nm) : putC ns nm = 0 ∧ i = lbT nm ns := by
 have hm := (mem_lb hr).1 (List.mem_of_getElem? hb)
 exact ⟨by unfold putC; rw [if_pos hm], rises_uniq hr hb hm⟩
theorem lb_is (hb : ns[i]? = some b) (h1 : i ≤ lbT nm ns) (h2 : sless b nm = false) : i = lbT nm ns := by
 rcases Nat.lt_or_ge i (lbT nm ns) with h | h
 · rw [lb_ahead h hb] at h2; cases h2
 · omega
theorem lb_not (hb : ns[i]? = some b) (hr : Rises ns) (h2 : sless b nm = true) : i < lbT nm ns := by
  rcases Nat.lt_or_ge i (lbT nm ns) with h | h
  · exact h
  · have hlt := (List.getElem?_eq_some_iff.1 hb).1
    have ha := List.getElem?_eq_getElem (l := ns) (i := lbT nm ns) (by omega)
    have := rises_ahead hr h hb h2 ha
    rw [lb_at ha] at this; cases this
end
theorem putC_not {ns : List ByteArray} {nm b : ByteArray} (hb : ns[lbT nm ns]? = some b) (hne : ¬ b = nm) : putC ns nm = 1 := by
 unfold putC
 rw [if_neg (fun h => by rw [hb] at h; exact hne (Option.some.inj h))]
set_option maxHeartbeats 2000000 in
theorem refPut_v (n : Nat) (p q : Tr) (name : ByteArray) (w : World) (L : List Nat) (hL : LL L w) (htp : RdT (n + 1) L w p) (htq : RdT (n + 1) L w q)  (hris : Rises p.names) (hlen : p.names.length = p.items.length) (hsm : p.names.length ≤ 1000000) : CV Try.prog 52 [.agg #[.int .i64 p.kind, .int .i64 p.num, .string p.text, p.nv, p.iv], .string name, .agg #[.int .i64 q.kind, .int .i64 q.num, .string q.text, q.nv, q.iv]] w fun v W => ∃ t, v = .agg #[.int .i64 t.kind, .int .i64 t.num, .string t.text, t.nv, t.iv] ∧ t.er = putJ p.er name q.er ∧ RdT (n + 2) L W t := by
 refine cv_enter (N := 83) (f := [(0, .agg #[.int .i64 p.kind, .int .i64 p.num, .string p.text, p.nv, p.iv]), (1, .string name), (2, .agg #[.int .i64 q.kind, .int .i64 q.num, .string q.text, q.nv, q.iv])]) Try.func52 rfl rfl rfl rfl fun Q hQ hE => ?_
 have hB := Below.refl w.heap.size w
 have hL0 := hL
 refine Sq fun K1 hK1 => ?_
 obtain ⟨hnp, hip, hcp⟩ := htp
 replace hcp : RdTs n (L) w p.items := hcp
 obtain ⟨hnq, hiq, hcq⟩ := htq
 replace hcq : RdTs n (L) w q.items := hcq
 refine Rg ?_
 refine Ge (dx_box rfl rfl rfl) rfl rfl ?_
 rintro _ W2 ⟨rfl, k3, b4, z5⟩
 have l6 := hB.size
 replace hnp := hnp.more b4 (Nat.le_refl _)
 replace hip := hip.more b4 (Nat.le_refl _)
 replace hcp := hcp.more b4 (Nat.le_refl _)
 replace hnq := hnq.more b4 (Nat.le_refl _)
 replace hiq := hiq.more b4 (Nat.le_refl _)
 replace hcq := hcq.more b4 (Nat.le_refl _)
 replace hB := below_then hB b4
 replace hL := LL.more hL z5
 refine Ge (dx_box rfl rfl rfl) rfl rfl ?_
 rintro _ W7 ⟨rfl, k8, b9, z10⟩
 have l12 := hB.size
 replace hnp := hnp.more b9 (Nat.le_refl _)
 replace hip := hip.more b9 (Nat.le_refl _)
 replace hcp := hcp.more b9 (Nat.le_refl _)
 replace hnq := hnq.more b9 (Nat.le_refl _)
 replace hiq := hiq.more b9 (Nat.le_refl _)
 replace hcq := hcq.more b9 (Nat.le_refl _)
 replace k3 := k3.below b9
 replace hB := below_then hB b9
 replace hL := LL.more hL z10
 refine Ge (dx_alloc rfl ty_zero_26 rfl) rfl rfl ?_
 rintro _ W13 ⟨rfl, k14, b15, z16⟩
 have l19 := hB.size
 replace hnp := hnp.more b15 (Nat.le_refl _)
 replace hip := hip.more b15 (Nat.le_refl _)
 replace hcp := hcp.more b15 (Nat.le_refl _)
 replace hnq := hnq.more b15 (Nat.le_refl _)
 replace hiq := hiq.more b15 (Nat.le_refl _)
 replace hcq := hcq.more b15 (Nat.le_refl _)
 replace k3 := k3.below b15
 replace k8 := k8.below b15
 replace hB := below_then hB b15
 replace hL := LL.more hL z16
 refine Ni (hK1 (Sq fun K20 hK20 => (Rg (Va (dx_build rfl rfl (built_of_O (cs := [.int .i64 6, .int .i64 0, .string ⟨#[]⟩, .slice none 0 0, .slice none 0 0]) (by kernel_rfl) (oc_cons rfl oc_nil))) rfl rfl ?_))))
 refine Ge (dx_alloc rfl ty_zero_26 rfl) rfl rfl ?_
 rintro _ W21 ⟨rfl, k22, b23, z24⟩
 have n25 : w.heap.size ≠ W13.heap.size := Nat.ne_of_lt k3.lt
 have n26 : W2.heap.size ≠ W13.heap.size := Nat.ne_of_lt k8.lt
 have n27 : W7.heap.size ≠ W13.heap.size := Nat.ne_of_lt k14.lt
 have l28 := hB.size
 replace hnp := hnp.more b23 (Nat.le_refl _)
 replace hip := hip.more b23 (Nat.le_refl _)
 replace hcp := hcp.more b23 (Nat.le_refl _)
 replace hnq := hnq.more b23 (Nat.le_refl _)
 replace hiq := hiq.more b23 (Nat.le_refl _)
 replace hcq := hcq.more b23 (Nat.le_refl _)
 replace k3 := k3.below b23
 replace k8 := k8.below b23
 replace k14 := k14.below b23
 replace hB := below_then hB b23
 replace hL := LL.more hL z24
 refine WL.do (dx_store (cs' := [.int .i64 6, .int .i64 0, .string ⟨#[]⟩, .slice none 0 0, .slice none 0 0]) (vs := [.int .i64 6, .int .i64 0, .string ⟨#[]⟩, .slice none 0 0, .slice none 0 0]) rfl ty_size_26_5 rfl rfl rfl (oc_cons rfl (oc_cons rfl (oc_cons rfl (oc_cons rfl (oc_cons rfl oc_nil))))) k22 rfl (Nat.le_of_ble_eq_true rfl) rfl) rfl ?_
 rintro _ W29 ⟨k31, o30⟩
 replace k3 := k3.other o30 n25
 replace k8 := k8.other o30 n26
 replace k14 := k14.other o30 n27
 clear k22
 replace hnp := hnp.only o30 (.head _)
 replace hip := hip.only o30 (.head _)
 replace hcp := hcp.only o30 (.head _)
 replace hnq := hnq.only o30 (.head _)
 replace hiq := hiq.only o30 (.head _)
 replace hcq := hcq.only o30 (.head _)
 replace hB := o30.below hB l28
 replace hL := LL.only hL o30
 refine Ni (hK20 (Sq fun K32 hK32 => (Rg (Pu rfl (Ni (hK32 (Sq fun K33 hK33 => ?_)))))))
 refine Sq fun K34 hK34 => (Rg (Pu rfl (Ni (hK34 (WC.block ?_)))))
 have hla := lbT_le name p.names
 have hnl := putN_len (ns := p.names) (nm := name)
 have htl := putT_len (nm := name) (x := q) hlen
 have hcl := putC_le (ns := p.names) (nm := name)
 obtain ⟨a_, ha_⟩ : ∃ a, a = lbT name p.names := ⟨_, rfl⟩
 obtain ⟨c_, hc_⟩ : ∃ a, a = putC p.names name := ⟨_, rfl⟩
 rw [← ha_] at hla
 rw [← hc_] at hnl htl hcl
 obtain ⟨b0, hb0⟩ : ∃ b, b = W29.heap.size := ⟨_, rfl⟩
 have hb0L : ∀ x ∈ (W13.heap.size :: W7.heap.size :: W2.heap.size :: w.heap.size :: L), x < b0 := by rw [hb0]; exact hL
 have hb0w : w.heap.size ≤ b0 := by rw [hb0]; exact hB.size
 have hnp6 := hnp
 have hip6 := hip
 have hnq6 := hnq
 have hiq6 := hiq
 have hcp6 := hcp
 have hcq6 := hcq
 have hag : AgL W29 (W13.heap.size :: W7.heap.size :: W2.heap.size :: w.heap.size :: L) (W13.heap.size :: W7.heap.size :: W2.heap.size :: w.heap.size :: L) W29 := ⟨fun _ h _ => h, ⟨Nat.le_refl _, fun _ _ _ => rfl⟩⟩
 have hm : MembI (n + 1) b0 (W13.heap.size :: W7.heap.size :: W2.heap.size :: w.heap.size :: L) (.slice none 0 0) ((putN p.names name).take 0) (.slice none 0 0) ((putT p.names name p.items q).take 0) W29 := ⟨hb0L, .inl ⟨rfl, rfl, by first | rfl | simp, by first | rfl | simp⟩⟩
 refine WC.loop4 (fun (i : Nat) (k : Nat) (nv : Value) (iv : Value) => [(1, .string name), (3, .pointer (some ⟨w.heap.size, 0, none⟩)), (5, .pointer (some ⟨W2.heap.size, 0, none⟩)), (6, .pointer (some ⟨W7.heap.size, 0, none⟩)), (7, .pointer (some ⟨W13.heap.size, 0, none⟩)), (9, .int .i64 (i : Int)), (8, .bool (decide (a_ < i)))]) (fun (i : Nat) (k : Nat) (nv : Value) (iv : Value) W => i ≤ p.names.length ∧ k ≤ i + 1 ∧ (a_ < i → k = i + c_) ∧ (i ≤ a_ → k = i) ∧ Below w.heap.size w W ∧ LL (W13.heap.size :: W7.heap.size :: W2.heap.size :: w.heap.size :: L) W ∧ RdF 1 (W13.heap.size :: W7.heap.size :: W2.heap.size :: w.heap.size :: L) W p.nv (p.names.map eS) ∧ RdF 5 (W13.heap.size :: W7.heap.size :: W2.heap.size :: w.heap.size :: L) W p.iv (p.items.map encT) ∧ RdTs n (W13.heap.size :: W7.heap.size :: W2.heap.size :: w.heap.size :: L) W p.items ∧ RdF 1 (W13.heap.size :: W7.heap.size :: W2.heap.size :: w.heap.size :: L) W q.nv (q.names.map eS) ∧ RdF 5 (W13.heap.size :: W7.heap.size :: W2.heap.size :: w.heap.size :: L) W q.iv (q.items.map encT) ∧ RdTs n (W13.heap.size :: W7.heap.size :: W2.heap.size :: w.heap.size :: L) W q.items ∧ AgL W29 (W13.heap.size :: W7.heap.size :: W2.heap.size :: w.heap.size :: L) (W13.heap.size :: W7.heap.size :: W2.heap.size :: w.heap.size :: L) W ∧ MembI (n + 1) b0 (W13.heap.size :: W7.heap.size :: W2.heap.size :: w.heap.size :: L) nv ((putN p.names name).take k) iv ((putT p.names name p.items q).take k) W ∧ Blk W w.heap.size [.int .i64 p.kind, .int .i64 p.num, .string p.text, p.nv, p.iv] ∧ Blk W W2.heap.size [.int .i64 q.kind, .int .i64 q.num, .string q.text, q.nv, q.iv] ∧ Blk W W7.heap.size [.int .i64 0, .int .i64 0, .string ⟨#[]⟩, .slice none 0 0, .slice none 0 0] ∧ Blk W W13.heap.size [.int .i64 6, .int .i64 0, .string ⟨#[]⟩, nv, iv]) (fun (i : Nat) (k : Nat) (nv : Value) (iv : Value) => p.names.length - i) 0 0 (.slice none 0 0) (.slice none 0 0) (by repeat first | exact trivial | exact And.intro rfl trivial | refine And.intro rfl ?_ | refine And.intro (congrArg (fun z : Int => some (Value.int .i64 z)) (by omega)) ?_ | refine And.intro (congrArg (fun z : Bool => some (Value.bool z)) (by first | exact (decide_eq_true (by omega)).symm | exact (decide_eq_false (by omega)).symm)) ?_) ⟨Nat.zero_le _, Nat.zero_le _, (fun h_ => by omega), (fun _ => rfl), hB, hL, hnp, hip, hcp, hnq, hiq, hcq, hag, hm, k3, k8, k14, k31⟩ ?_
 clear hnp hip hcp hnq hiq hcq hag hm k3 k8 k14 k31 hB hL
 rintro K35 i k nv iv W36 ⟨hi, hkl, hk1, hk2, hB, hL, hnp, hip, hcp, hnq, hiq, hcq, hag, hm, k3, k8, k14, k31⟩ hK35
 refine Sq fun K37 hK37 => (Sq fun K38 hK38 => (Rg (Pu rfl (Va (dx_fld (o1 := 3) rfl ty_fld_26_3_3 rfl rfl) rfl rfl (Va (dx_load rfl ty_one_23 rfl (k3.cell (k := 3) rfl)) rfl rfl (Va (dx_lenFM rfl ty_slice_23 rfl hnp) rfl rfl (Va (dx_lss rfl rfl rfl) rfl rfl ?_)))))))
 refine Ni (hK38 ?_)
 refine WC.cond rfl (fun c39 => ?_) (fun c39 => ?_)
 ·
  replace c39 := dT c39
  refine WC.skip (hK37 (Sq fun K40 hK40 => (WC.block (Sq fun K41 hK41 => (Sq fun K42 hK42 => ?_)))))
  by_cases hda : a_ < i
  ·
   have hkk := hk1 hda
   rw [decide_eq_true hda]
   refine Rg (Pu rfl (Va (dx_not rfl rfl) rfl rfl (Pu rfl (Of rfl (Of rfl (Of rfl (Of rfl ?_)))))))
   refine Of rfl (Of rfl (Of rfl (Pu rfl (Ni (hK42 (WC.condF rfl (WC.skip ?_)))))))
   refine hK41 (Sq fun K43 hK43 => (Rg (Va (dx_fld (o1 := 3) rfl ty_fld_26_3_3 rfl rfl) rfl rfl (Va (dx_load rfl ty_one_23 rfl (k3.cell (k := 3) rfl)) rfl rfl (Pu rfl ?_)))))
   obtain ⟨r44, e45⟩ : ∃ x, p.names[i]? = some x := ⟨_, List.getElem?_eq_getElem (by omega)⟩
   refine Ge (dx_idxF i rfl ty_slice_23 rfl rfl hnp (by omega) (at_mapX e45)) rfl rfl ?_
   rintro u46 _ ⟨rfl, p47⟩
   refine Va (dx_loadP rfl ty_one_9 rfl p47) rfl rfl (Pu rfl (Va (dx_neqT rfl rfl rfl) rfl rfl (Ni (hK43 ?_))))
   refine WC.cond rfl (fun c48 => ?_) (fun c48 => ?_)
   ·
    replace c48 := bnot_t c48
    replace c48 := dF c48
    refine Sq fun K49 hK49 => ?_
    have hne : ¬ r44 = name := by first | assumption | simp_all
    obtain ⟨-, hm⟩ := hm
    have hlN : ((putN p.names name).take k).length ≤ p.names.length + 1 ∧ ((putT p.names name p.items q).take k).length ≤ p.names.length + 1 := ⟨by rw [List.length_take]; omega, by rw [List.length_take]; omega⟩
    rcases hm with ⟨rfl, rfl, hns0, hts0⟩ | ⟨Bn, Bi, hni, hbn, hbi, hOn, hOi, hts⟩
    ·
     exfalso; have h_ := congrArg List.length hns0; rw [List.length_take, List.length_nil] at h_; omega
    ·
     have n50 : Bn ≠ w.heap.size := by have := hb0L (w.heap.size) (.tail _ (.tail _ (.tail _ (.head _)))); omega
     have n51 : Bi ≠ w.heap.size := by have := hb0L (w.heap.size) (.tail _ (.tail _ (.tail _ (.head _)))); omega
     have n52 : Bn ≠ W2.heap.size := by have := hb0L (W2.heap.size) (.tail _ (.tail _ (.head _))); omega
     have n53 : Bi ≠ W2.heap.size := by have := hb0L (W2.heap.size) (.tail _ (.tail _ (.head _))); omega
     have n54 : Bn ≠ W7.heap.size := by have := hb0L (W7.heap.size) (.tail _ (.head _)); omega
     have n55 : Bi ≠ W7.heap.size := by have := hb0L (W7.heap.size) (.tail _ (.head _)); omega
     have n56 : Bn ≠ W13.heap.size := by have := hb0L (W13.heap.size) (.head _); omega
     have n57 : Bi ≠ W13.heap.size := by have := hb0L (W13.heap.size) (.head _); omega
     have lbn : w.heap.size ≤ Bn := by omega
     have lbi : w.heap.size ≤ Bi := by omega
     replace hag := (hag.add (B := Bi) (by omega)).add (B := Bn) (by omega)
     replace hL := LL.cons (LL.cons hL hOi.lt) hOn.lt
     replace hnp := hag.rd hnp6
     replace hip := hag.rd hip6
     replace hnq := hag.rd hnq6
     replace hiq := hag.rd hiq6
     replace hcp : RdTs n (Bn :: Bi :: W13.heap.size :: W7.heap.size :: W2.heap.size :: w.heap.size :: L) W36 p.items := fun c hc_ => hag.rt (hcp6 c hc_)
     replace hcq : RdTs n (Bn :: Bi :: W13.heap.size :: W7.heap.size :: W2.heap.size :: w.heap.size :: L) W36 q.items := fun c hc_ => hag.rt (hcq6 c hc_)
     have n2 : (putN p.names name)[k]? = some r44 := by have h_ := putN_ge (nm := name) (i := i) (by omega) e45 hne; rw [← hc_] at h_; rw [hkk]; exact h_
     refine WC.drawM 8 [(some 48, .is (.pointer (some ⟨W13.heap.size, 3, none⟩))), (some 49, .is (nv)), (some 50, .is (.pointer (some ⟨w.heap.size, 3, none⟩))), (some 51, .is (p.nv)), (some 52, .is (.int .i64 (i : Int))), (some 53, .by fun u W => PtR (Bn :: Bi :: W13.heap.size :: W7.heap.size :: W2.heap.size :: w.heap.size :: L) W u [.string r44]), (some 54, .is (.string r44)), (some 55, .by fun u W => RdF 1 (Bn :: Bi :: W13.heap.size :: W7.heap.size :: W2.heap.size :: w.heap.size :: L) W u [[.string r44]])] [[], [0], [], [2], [], [3, 4], [5], [6]] (by kernel_rfl) (by kernel_rfl) (by kernel_rfl) (by kernel_rfl) (by kernel_rfl) (by kernel_rfl) (by kernel_rfl) ⟨fun _ _ _ hb h => h.below hb, fun _ _ _ hb h => h.below hb, trivial⟩ ?_ ?_
     ·
      refine Dc (fun Wd hd => ?_) ?_
      ·
       exact Dd (dx_fld (o1 := 3) rfl ty_fld_26_3_3 rfl rfl) rfl
      refine Dc (fun Wd hd => ?_) ?_
      ·
       have k31 := k31.below hd
       exact Dd (dx_load rfl ty_one_23 rfl (k31.cell (k := 3) rfl)) rfl
      refine Dc (fun Wd hd => ?_) ?_
      ·
       exact Dd (dx_fld (o1 := 3) rfl ty_fld_26_3_3 rfl rfl) rfl
      refine Dc (fun Wd hd => ?_) ?_
      ·
       have k3 := k3.below hd
       exact Dd (dx_load rfl ty_one_23 rfl (k3.cell (k := 3) rfl)) rfl
      refine Dc (fun Wd hd => ?_) ?_
      ·
       exact Dd (dx_move rfl rfl) rfl
      refine Dc (fun Wd hd => ?_) ?_
      ·
       have hnp := hnp.below hd
       exact (dx_idxF i rfl ty_slice_23 rfl rfl hnp (by omega) (at_mapX e45)).mono (fun v W' h => ⟨by rw [← h.1]; exact Below.refl _ _, by rw [← h.1]; exact h.2⟩)
      refine Dc (fun Wd hd => ?_) ?_
      ·
       intro u11_5 p11_5
       exact Dd (dx_loadP rfl ty_one_9 rfl p11_5) rfl
      refine Dc (fun Wd hd => ?_) ?_
      ·
       exact (dx_lit1 (r := [.string r44]) rfl ty_ap_23 (by decide) (by decide) rfl rfl rfl).mono (fun v W' h => ⟨h.2.1, h.1.notin (LL.below hL hd) (Nat.le_refl _)⟩)
      exact trivial
     ·
      intro W58 b59
      intro u11_5 p11_5
      intro u11_7 p11_7
      replace hnp := hnp.below b59
      replace hip := hip.below b59
      replace hcp := hcp.below b59
      replace hnq := hnq.below b59
      replace hiq := hiq.below b59
      replace hcq := hcq.below b59
      replace hag := hag.below b59
      replace hts := hts.below b59
      replace k3 := k3.below b59
      replace k8 := k8.below b59
      replace k14 := k14.below b59
      replace k31 := k31.below b59
      replace hOn := hOn.below b59
      replace hOi := hOi.below b59
      replace hB := below_then hB b59
      replace hL := LL.below hL b59
      refine Ge (dx_apO' (rs := (((putN p.names name).take k).map eS)) (news := [eS r44]) rfl ty_ap_23 rfl rfl hOn (RdF.less (L' := []) p11_7 (fun x hx => by cases hx)) (fun r hr => by rw [List.mem_singleton.1 hr]; exact (oc_cons rfl oc_nil)) (by simp only [List.length_map, List.length_append, List.length_cons, List.length_nil]; unfold maxLen; omega) (by simp only [List.length_map, List.length_append, List.length_cons, List.length_nil]; omega)) rfl rfl ?_
      rintro u60 W61 ⟨B66, k62, g65⟩
      rw [show (((putN p.names name).take k).map eS) ++ [eS r44] = ((((putN p.names name).take k) ++ [r44]).map eS) from by simp only [List.map_append, List.map_cons, List.map_nil]] at k62
      have q68 := hag.2.1
      have l69 : b0 ≤ B66 := g65.le hbn (by omega)
      have n73 : W13.heap.size ≠ B66 := k31.grow_ne g65 n56.symm
      have n74 : Bi ≠ B66 := hOi.grow_ne g65 hni.symm
      have l67 := g65.le lbn hB.size
      replace hnp := hnp.grow' g65 (.head _)
      replace hip := hip.grow' g65 (.head _)
      replace hcp := hcp.grow' g65 (.head _)
      replace hnq := hnq.grow' g65 (.head _)
      replace hiq := hiq.grow' g65 (.head _)
      replace hcq := hcq.grow' g65 (.head _)
      replace hag := hag.grow' g65 (.head _)
      replace hts := hts.grow' g65 (.head _)
      replace k3 := k3.grow g65 n50.symm
      replace k8 := k8.grow g65 n52.symm
      replace k14 := k14.grow g65 n54.symm
      replace k31 := k31.grow g65 n56.symm
      replace hOi := hOi.grow g65 hni.symm
      replace hB := g65.below hB lbn hB.size
      replace hL := LL.grow hL g65 k62.lt
      refine Va (dx_fld (o1 := 3) rfl ty_fld_26_3_3 rfl rfl) rfl rfl ?_
      refine WL.do (dx_store (cs' := [.int .i64 6, .int .i64 0, .string ⟨#[]⟩, u60, iv]) (vs := [u60]) rfl ty_size_23_1 rfl rfl (oc_one k62.one) (oc_cons k62.one oc_nil) k31 rfl (Nat.le_of_ble_eq_true rfl) rfl) rfl ?_
      rintro _ W75 ⟨k77, o76⟩
      replace k3 := k3.other o76 n25
      replace k8 := k8.other o76 n26
      replace k14 := k14.other o76 n27
      replace hOi := hOi.other o76 n57
      replace k62 := k62.other o76 n73.symm
      clear k31
      replace hnp := hnp.only o76 (.tail _ (.tail _ (.tail _ (.head _))))
      replace hip := hip.only o76 (.tail _ (.tail _ (.tail _ (.head _))))
      replace hcp := hcp.only o76 (.tail _ (.tail _ (.tail _ (.head _))))
      replace hnq := hnq.only o76 (.tail _ (.tail _ (.tail _ (.head _))))
      replace hiq := hiq.only o76 (.tail _ (.tail _ (.tail _ (.head _))))
      replace hcq := hcq.only o76 (.tail _ (.tail _ (.tail _ (.head _))))
      replace hag := hag.only o76 (.tail _ (.tail _ (.tail _ (.head _))))
      replace hts := hts.only o76 (.tail _ (.tail _ (.tail _ (.head _))))
      replace hB := o76.below hB l28
      replace hL := LL.only hL o76
      refine Ni (hK49 ?_)
      obtain ⟨t78, ht79⟩ : ∃ x, p.items[i]? = some x := ⟨_, List.getElem?_eq_getElem (by omega)⟩
      have hot78 := (hcp t78 (List.mem_of_getElem? ht79))
      obtain ⟨hnt78, hit78, hct78⟩ : RdF 1 (B66 :: Bn :: Bi :: W13.heap.size :: W7.heap.size :: W2.heap.size :: w.heap.size :: L) W75 t78.nv (t78.names.map eS) ∧ RdF 5 (B66 :: Bn :: Bi :: W13.heap.size :: W7.heap.size :: W2.heap.size :: w.heap.size :: L) W75 t78.iv (t78.items.map encT) ∧ ∀ c ∈ t78.items, RdT n (B66 :: Bn :: Bi :: W13.heap.size :: W7.heap.size :: W2.heap.size :: w.heap.size :: L) W75 c := by cases n with | zero => exact hot78.elim | succ n => exact ⟨hot78.1, hot78.2.1, fun c hc => (hot78.2.2 c hc).up⟩
      have t2 : (putT p.names name p.items q)[k]? = some t78 := by have h_ := putT_ge (x := q) hlen (i := i) (by omega) e45 hne ht79; rw [← hc_] at h_; rw [hkk]; exact h_
      refine WC.drawM 8 [(some 58, .is (.pointer (some ⟨W13.heap.size, 4, none⟩))), (some 59, .is (iv)), (some 60, .is (.pointer (some ⟨w.heap.size, 4, none⟩))), (some 61, .is (p.iv)), (some 62, .is (.int .i64 (i : Int))), (some 63, .by fun u W => PtR (B66 :: Bn :: Bi :: W13.heap.size :: W7.heap.size :: W2.heap.size :: w.heap.size :: L) W u (encT t78)), (some 64, .is (.agg #[.int .i64 t78.kind, .int .i64 t78.num, .string t78.text, t78.nv, t78.iv])), (some 65, .by fun u W => RdF 5 (B66 :: Bn :: Bi :: W13.heap.size :: W7.heap.size :: W2.heap.size :: w.heap.size :: L) W u [[.int .i64 t78.kind, .int .i64 t78.num, .string t78.text, t78.nv, t78.iv]])] [[], [0], [], [2], [], [3, 4], [5], [6]] (by kernel_rfl) (by kernel_rfl) (by kernel_rfl) (by kernel_rfl) (by kernel_rfl) (by kernel_rfl) (by kernel_rfl) ⟨fun _ _ _ hb h => h.below hb, fun _ _ _ hb h => h.below hb, trivial⟩ ?_ ?_
      ·
       refine Dc (fun Wd hd => ?_) ?_
       ·
        exact Dd (dx_fld (o1 := 4) rfl ty_fld_26_4_4 rfl rfl) rfl
       refine Dc (fun Wd hd => ?_) ?_
       ·
        have k77 := k77.below hd
        exact Dd (dx_load rfl ty_one_24 rfl (k77.cell (k := 4) rfl)) rfl
       refine Dc (fun Wd hd => ?_) ?_
       ·
        exact Dd (dx_fld (o1 := 4) rfl ty_fld_26_4_4 rfl rfl) rfl
       refine Dc (fun Wd hd => ?_) ?_
       ·
        have k3 := k3.below hd
        exact Dd (dx_load rfl ty_one_24 rfl (k3.cell (k := 4) rfl)) rfl
       refine Dc (fun Wd hd => ?_) ?_
       ·
        exact Dd (dx_move rfl rfl) rfl
       refine Dc (fun Wd hd => ?_) ?_
       ·
        have hip := hip.below hd
        exact (dx_idxF i rfl ty_slice_24 rfl rfl hip (by omega) (at_mapX ht79)).mono (fun v W' h => ⟨by rw [← h.1]; exact Below.refl _ _, by rw [← h.1]; exact h.2⟩)
       refine Dc (fun Wd hd => ?_) ?_
       ·
        intro u12_5 p12_5
        exact Dd (dx_loadPN rfl ty_agg_26_5 rfl p12_5 rfl) rfl
       refine Dc (fun Wd hd => ?_) ?_
       ·
        exact (dx_lit1 (r := [.int .i64 t78.kind, .int .i64 t78.num, .string t78.text, t78.nv, t78.iv]) rfl ty_ap_24 (by decide) (by decide) rfl rfl rfl).mono (fun v W' h => ⟨h.2.1, h.1.notin (LL.below hL hd) (Nat.le_refl _)⟩)
       exact trivial
      ·
       intro W80 b81
       intro u12_5 p12_5
       intro u12_7 p12_7
       replace hnp := hnp.below b81
       replace hip := hip.below b81
       replace hcp := hcp.below b81
       replace hnq := hnq.below b81
       replace hiq := hiq.below b81
       replace hcq := hcq.below b81
       replace hag := hag.below b81
       replace hts := hts.below b81
       replace k3 := k3.below b81
       replace k8 := k8.below b81
       replace k14 := k14.below b81
       replace k77 := k77.below b81
       replace hOi := hOi.below b81
       replace k62 := k62.below b81
       replace hB := below_then hB b81
       replace hL := LL.below hL b81
       refine Ge (dx_apO' (rs := (((putT p.names name p.items q).take k).map encT)) (news := [encT t78]) rfl ty_ap_24 rfl rfl hOi (RdF.less (L' := []) p12_7 (fun x hx => by cases hx)) (fun r hr => by rw [List.mem_singleton.1 hr]; exact (hcp t78 (List.mem_of_getElem? ht79)).oc) (by simp only [List.length_map, List.length_append, List.length_cons, List.length_nil]; unfold maxLen; omega) (by simp only [List.length_map, List.length_append, List.length_cons, List.length_nil]; omega)) rfl rfl ?_
       rintro u82 W83 ⟨B88, k84, g87⟩
       rw [show (((putT p.names name p.items q).take k).map encT) ++ [encT t78] = ((((putT p.names name p.items q).take k) ++ [t78]).map encT) from by simp only [List.map_append, List.map_cons, List.map_nil]] at k84
       have q90 := hag.2.1
       have l91 : b0 ≤ B88 := g87.le hbi (by omega)
       have n95 : W13.heap.size ≠ B88 := k77.grow_ne g87 n57.symm
       have n96 : B66 ≠ B88 := k62.grow_ne g87 n74.symm
       have l89 := g87.le lbi hB.size
       replace hnp := hnp.grow' g87 (.tail _ (.tail _ (.head _)))
       replace hip := hip.grow' g87 (.tail _ (.tail _ (.head _)))
       replace hcp := hcp.grow' g87 (.tail _ (.tail _ (.head _)))
       replace hnq := hnq.grow' g87 (.tail _ (.tail _ (.head _)))
       replace hiq := hiq.grow' g87 (.tail _ (.tail _ (.head _)))
       replace hcq := hcq.grow' g87 (.tail _ (.tail _ (.head _)))
       replace hag := hag.grow' g87 (.tail _ (.tail _ (.head _)))
       replace hts := hts.grow' g87 (.tail _ (.tail _ (.head _)))
       replace k3 := k3.grow g87 n51.symm
       replace k8 := k8.grow g87 n53.symm
       replace k14 := k14.grow g87 n55.symm
       replace k77 := k77.grow g87 n57.symm
       replace k62 := k62.grow g87 n74.symm
       replace hB := g87.below hB lbi hB.size
       replace hL := LL.grow hL g87 k84.lt
       refine Va (dx_fld (o1 := 4) rfl ty_fld_26_4_4 rfl rfl) rfl rfl ?_
       refine WL.do (dx_store (cs' := [.int .i64 6, .int .i64 0, .string ⟨#[]⟩, u60, u82]) (vs := [u82]) rfl ty_size_24_1 rfl rfl (oc_one k84.one) (oc_cons k84.one oc_nil) k77 rfl (Nat.le_of_ble_eq_true rfl) rfl) rfl ?_
       rintro _ W97 ⟨k99, o98⟩
       replace k3 := k3.other o98 n25
       replace k8 := k8.other o98 n26
       replace k14 := k14.other o98 n27
       replace k62 := k62.other o98 n73.symm
       replace k84 := k84.other o98 n95.symm
       clear k77
       replace hnp := hnp.only o98 (.tail _ (.tail _ (.tail _ (.tail _ (.head _)))))
       replace hip := hip.only o98 (.tail _ (.tail _ (.tail _ (.tail _ (.head _)))))
       replace hcp := hcp.only o98 (.tail _ (.tail _ (.tail _ (.tail _ (.head _)))))
       replace hnq := hnq.only o98 (.tail _ (.tail _ (.tail _ (.tail _ (.head _)))))
       replace hiq := hiq.only o98 (.tail _ (.tail _ (.tail _ (.tail _ (.head _)))))
       replace hcq := hcq.only o98 (.tail _ (.tail _ (.tail _ (.tail _ (.head _)))))
       replace hag := hag.only o98 (.tail _ (.tail _ (.tail _ (.tail _ (.head _)))))
       replace hts := hts.only o98 (.tail _ (.tail _ (.tail _ (.tail _ (.head _)))))
       replace hB := o98.below hB l28
       replace hL := LL.only hL o98
       refine Ni (hK40 (Rg (Pu rfl (Va (dx_add (r := (i : Int) + 1) rfl rfl rfl (wrap64_id (by omega))) rfl rfl (Pu rfl (Ni ?_))))))
       have eputN : (((putN p.names name).take k) ++ [r44]) = (putN p.names name).take (k + 1) := by rw [take_add n2]; (try rfl)
       have eputT : (((putT p.names name p.items q).take k) ++ [t78]) = (putT p.names name p.items q).take (k + 1) := by rw [take_add t2]; (try rfl)
       have hts2 : RdTs (n + 1) (B66 :: B88 :: W13.heap.size :: W7.heap.size :: W2.heap.size :: w.heap.size :: L) W97 (((putT p.names name p.items q).take k) ++ [t78]) := fun c hc_ => by
        simp only [List.mem_append, List.mem_singleton, or_assoc] at hc_
        rcases hc_ with h_ | h_
        · exact (hts c h_).less (fun x hx => by simp only [List.mem_cons] at hx ⊢; rcases hx with h_ | h_ | h_ <;> simp [h_])
        · (rw [h_]; exact (hcp t78 (List.mem_of_getElem? ht79)).up.less (fun x hx => by simp only [List.mem_cons] at hx ⊢; rcases hx with h_ | h_ | h_ <;> simp [h_]))
       have hm2 : MembI (n + 1) b0 (W13.heap.size :: W7.heap.size :: W2.heap.size :: w.heap.size :: L) u60 ((putN p.names name).take (k + 1)) u82 ((putT p.names name p.items q).take (k + 1)) W97 := ⟨hb0L, .inr ⟨B66, B88, n96, by omega, by omega, (by rw [← eputN]; exact k62), (by rw [← eputT]; exact k84), (by rw [← eputT]; exact hts2)⟩⟩
       have hL_ := hL.less (fun x hx => (.tail _ (.tail _ (.tail _ (.tail _ hx)))))
       replace hag : AgL W29 (W13.heap.size :: W7.heap.size :: W2.heap.size :: w.heap.size :: L) (W13.heap.size :: W7.heap.size :: W2.heap.size :: w.heap.size :: L) W97 := ⟨fun _ h _ => h, hag.2⟩
       replace hnp := hnp6.agree hag.2
       replace hip := hip6.agree hag.2
       replace hnq := hnq6.agree hag.2
       replace hiq := hiq6.agree hag.2
       replace hcp : RdTs n (W13.heap.size :: W7.heap.size :: W2.heap.size :: w.heap.size :: L) W97 p.items := fun c hc_ => (hcp6 c hc_).agree hag.2
       replace hcq : RdTs n (W13.heap.size :: W7.heap.size :: W2.heap.size :: w.heap.size :: L) W97 q.items := fun c hc_ => (hcq6 c hc_).agree hag.2
       replace hL := hL_
       exact hK35 (i + 1) (k + 1) u60 u82 ⟨(by omega), (by omega), (fun h_ => by omega), (fun h_ => by omega), hB, hL, hnp, hip, hcp, hnq, hiq, hcq, hag, hm2, k3, k8, k14, k99⟩ (by omega) (by repeat first | exact trivial | exact And.intro rfl trivial | refine And.intro rfl ?_ | refine And.intro (congrArg (fun z : Int => some (Value.int .i64 z)) (by omega)) ?_ | refine And.intro (congrArg (fun z : Bool => some (Value.bool z)) (by first | exact (decide_eq_true (by omega)).symm | exact (decide_eq_false (by omega)).symm)) ?_)
   ·
    replace c48 := bnot_f c48
    replace c48 := dT c48
    exfalso; have hc0 := (putC_found (nm := name) hris (by rw [← (show r44 = name by first | assumption | exact Classical.not_not.1 (by assumption) | simp_all)]; exact e45)).2; omega
  ·
   have hkk := hk2 (by omega)
   rw [decide_eq_false hda]
   refine Rg (Pu rfl (Va (dx_not rfl rfl) rfl rfl (Pu rfl (Va (dx_fld (o1 := 3) rfl ty_fld_26_3_3 rfl rfl) rfl rfl (Va (dx_load rfl ty_one_23 rfl (k3.cell (k := 3) rfl)) rfl rfl (Pu rfl ?_))))))
   obtain ⟨r100, e101⟩ : ∃ x, p.names[i]? = some x := ⟨_, List.getElem?_eq_getElem (by omega)⟩
   refine Ge (dx_idxF i rfl ty_slice_23 rfl rfl hnp (by omega) (at_mapX e101)) rfl rfl ?_
   rintro u102 _ ⟨rfl, p103⟩
   refine Va (dx_loadP rfl ty_one_9 rfl p103) rfl rfl (Pu rfl (Va (dx_geqT rfl rfl rfl) rfl rfl (Pu rfl (Ni (hK42 ?_)))))
   refine WC.cond rfl (fun c104 => ?_) (fun c104 => ?_)
   ·
    replace c104 := bnot_t c104
    refine Sq fun K105 hK105 => ?_
    have hia : i = a_ := by rw [ha_]; exact lb_is e101 (by omega) c104
    have n1 : (putN p.names name)[k]? = some name := by rw [show k = lbT name p.names by omega]; exact putN_a
    have t1 : (putT p.names name p.items q)[k]? = some q := by rw [show k = lbT name p.names by omega]; exact putT_a hlen
    obtain ⟨-, hm⟩ := hm
    have hlN : ((putN p.names name).take k).length ≤ p.names.length + 1 ∧ ((putT p.names name p.items q).take k).length ≤ p.names.length + 1 := ⟨by rw [List.length_take]; omega, by rw [List.length_take]; omega⟩
    rcases hm with ⟨rfl, rfl, hns0, hts0⟩ | ⟨Bn, Bi, hni, hbn, hbi, hOn, hOi, hts⟩
    ·
     refine Rg (Va (dx_fld (o1 := 3) rfl ty_fld_26_3_3 rfl rfl) rfl rfl (Va (dx_load rfl ty_one_23 rfl (k31.cell (k := 3) rfl)) rfl rfl (Pu rfl ?_)))
     refine Ge (dx_lit1 (r := [.string name]) rfl ty_ap_23 (by decide) (by decide) rfl rfl rfl) rfl rfl ?_
     rintro u110 W106 ⟨k107, b108, z109⟩
     have l115 := hB.size
     replace hnp := hnp.more b108 (Nat.le_refl _)
     replace hip := hip.more b108 (Nat.le_refl _)
     replace hcp := hcp.more b108 (Nat.le_refl _)
     replace hnq := hnq.more b108 (Nat.le_refl _)
     replace hiq := hiq.more b108 (Nat.le_refl _)
     replace hcq := hcq.more b108 (Nat.le_refl _)
     replace hag := hag.more b108 (Nat.le_refl _)
     replace k3 := k3.below b108
     replace k8 := k8.below b108
     replace k14 := k14.below b108
     replace k31 := k31.below b108
     replace hB := below_then hB b108
     replace hL := LL.more hL z109
     refine Ge (dx_apF (rs := []) (news := [eS name]) rfl ty_ap_23 rfl rfl (RdF.nil (L := []) (by decide)) (k107.rd (L := []) (by simp)) (by simp) (by simp [maxLen]) (by simp)) rfl rfl ?_
     rintro u116 W117 ⟨k118, b119, z120⟩
     have q123 := hag.2.1
     have l124 : b0 ≤ W106.heap.size := by omega
     have n125 : w.heap.size ≠ W106.heap.size := Nat.ne_of_lt k3.lt
     have n126 : W2.heap.size ≠ W106.heap.size := Nat.ne_of_lt k8.lt
     have n127 : W7.heap.size ≠ W106.heap.size := Nat.ne_of_lt k14.lt
     have n128 : W13.heap.size ≠ W106.heap.size := Nat.ne_of_lt k31.lt
     have l130 := hB.size
     replace hnp := hnp.more b119 (Nat.le_refl _)
     replace hip := hip.more b119 (Nat.le_refl _)
     replace hcp := hcp.more b119 (Nat.le_refl _)
     replace hnq := hnq.more b119 (Nat.le_refl _)
     replace hiq := hiq.more b119 (Nat.le_refl _)
     replace hcq := hcq.more b119 (Nat.le_refl _)
     replace hag := hag.more b119 (Nat.le_refl _)
     replace k3 := k3.below b119
     replace k8 := k8.below b119
     replace k14 := k14.below b119
     replace k31 := k31.below b119
     replace hB := below_then hB b119
     replace hL := LL.more hL z120
     refine Va (dx_fld (o1 := 3) rfl ty_fld_26_3_3 rfl rfl) rfl rfl ?_
     refine WL.do (dx_store (cs' := [.int .i64 6, .int .i64 0, .string ⟨#[]⟩, u116, .slice none 0 0]) (vs := [u116]) rfl ty_size_23_1 rfl rfl (oc_one k118.one) (oc_cons k118.one oc_nil) k31 rfl (Nat.le_of_ble_eq_true rfl) rfl) rfl ?_
     rintro _ W131 ⟨k133, o132⟩
     replace k3 := k3.other o132 n25
     replace k8 := k8.other o132 n26
     replace k14 := k14.other o132 n27
     replace k118 := k118.other o132 n128.symm
     clear k31
     replace hnp := hnp.only o132 (.tail _ (.tail _ (.head _)))
     replace hip := hip.only o132 (.tail _ (.tail _ (.head _)))
     replace hcp := hcp.only o132 (.tail _ (.tail _ (.head _)))
     replace hnq := hnq.only o132 (.tail _ (.tail _ (.head _)))
     replace hiq := hiq.only o132 (.tail _ (.tail _ (.head _)))
     replace hcq := hcq.only o132 (.tail _ (.tail _ (.head _)))
     replace hag := hag.only o132 (.tail _ (.tail _ (.head _)))
     replace hB := o132.below hB l28
     replace hL := LL.only hL o132
     refine Ni (hK105 (Sq fun K134 hK134 => (Rg (Va (dx_fld (o1 := 4) rfl ty_fld_26_4_4 rfl rfl) rfl rfl (Va (dx_load rfl ty_one_24 rfl (k133.cell (k := 4) rfl)) rfl rfl (Va (dx_loadN rfl ty_agg_26_5 rfl k8.range rfl) rfl rfl ?_))))))
     refine Ge (dx_lit1 (r := [.int .i64 q.kind, .int .i64 q.num, .string q.text, q.nv, q.iv]) rfl ty_ap_24 (by decide) (by decide) rfl rfl rfl) rfl rfl ?_
     rintro u139 W135 ⟨k136, b137, z138⟩
     have l146 := hB.size
     replace hnp := hnp.more b137 (Nat.le_refl _)
     replace hip := hip.more b137 (Nat.le_refl _)
     replace hcp := hcp.more b137 (Nat.le_refl _)
     replace hnq := hnq.more b137 (Nat.le_refl _)
     replace hiq := hiq.more b137 (Nat.le_refl _)
     replace hcq := hcq.more b137 (Nat.le_refl _)
     replace hag := hag.more b137 (Nat.le_refl _)
     replace k3 := k3.below b137
     replace k8 := k8.below b137
     replace k14 := k14.below b137
     replace k133 := k133.below b137
     replace k118 := k118.below b137
     replace hB := below_then hB b137
     replace hL := LL.more hL z138
     refine Ge (dx_apF (rs := []) (news := [encT q]) rfl ty_ap_24 rfl rfl (RdF.nil (L := []) (by decide)) (k136.rd (L := []) (by simp)) (by simp) (by simp [maxLen]) (by simp)) rfl rfl ?_
     rintro u147 W148 ⟨k149, b150, z151⟩
     have q154 := hag.2.1
     have l155 : b0 ≤ W135.heap.size := by omega
     have n156 : w.heap.size ≠ W135.heap.size := Nat.ne_of_lt k3.lt
     have n157 : W2.heap.size ≠ W135.heap.size := Nat.ne_of_lt k8.lt
     have n158 : W7.heap.size ≠ W135.heap.size := Nat.ne_of_lt k14.lt
     have n159 : W13.heap.size ≠ W135.heap.size := Nat.ne_of_lt k133.lt
     have n161 : W106.heap.size ≠ W135.heap.size := Nat.ne_of_lt k118.lt
     have l163 := hB.size
     replace hnp := hnp.more b150 (Nat.le_refl _)
     replace hip := hip.more b150 (Nat.le_refl _)
     replace hcp := hcp.more b150 (Nat.le_refl _)
     replace hnq := hnq.more b150 (Nat.le_refl _)
     replace hiq := hiq.more b150 (Nat.le_refl _)
     replace hcq := hcq.more b150 (Nat.le_refl _)
     replace hag := hag.more b150 (Nat.le_refl _)
     replace k3 := k3.below b150
     replace k8 := k8.below b150
     replace k14 := k14.below b150
     replace k133 := k133.below b150
     replace k118 := k118.below b150
     replace hB := below_then hB b150
     replace hL := LL.more hL z151
     refine Va (dx_fld (o1 := 4) rfl ty_fld_26_4_4 rfl rfl) rfl rfl ?_
     refine WL.do (dx_store (cs' := [.int .i64 6, .int .i64 0, .string ⟨#[]⟩, u116, u147]) (vs := [u147]) rfl ty_size_24_1 rfl rfl (oc_one k149.one) (oc_cons k149.one oc_nil) k133 rfl (Nat.le_of_ble_eq_true rfl) rfl) rfl ?_
     rintro _ W164 ⟨k166, o165⟩
     replace k3 := k3.other o165 n25
     replace k8 := k8.other o165 n26
     replace k14 := k14.other o165 n27
     replace k118 := k118.other o165 n128.symm
     replace k149 := k149.other o165 n159.symm
     clear k133
     replace hnp := hnp.only o165 (.tail _ (.tail _ (.tail _ (.tail _ (.head _)))))
     replace hip := hip.only o165 (.tail _ (.tail _ (.tail _ (.tail _ (.head _)))))
     replace hcp := hcp.only o165 (.tail _ (.tail _ (.tail _ (.tail _ (.head _)))))
     replace hnq := hnq.only o165 (.tail _ (.tail _ (.tail _ (.tail _ (.head _)))))
     replace hiq := hiq.only o165 (.tail _ (.tail _ (.tail _ (.tail _ (.head _)))))
     replace hcq := hcq.only o165 (.tail _ (.tail _ (.tail _ (.tail _ (.head _)))))
     replace hag := hag.only o165 (.tail _ (.tail _ (.tail _ (.tail _ (.head _)))))
     replace hB := o165.below hB l28
     replace hL := LL.only hL o165
     refine Ni (hK134 (Rg (Pu rfl (Ni (hK41 (Sq fun K167 hK167 => (Rg ?_)))))))
     refine Va (dx_fld (o1 := 3) rfl ty_fld_26_3_3 rfl rfl) rfl rfl (Va (dx_load rfl ty_one_23 rfl (k3.cell (k := 3) rfl)) rfl rfl (Pu rfl ?_))
     refine Ge (dx_idxF i rfl ty_slice_23 rfl rfl hnp (by omega) (at_mapX e101)) rfl rfl ?_
     rintro u168 _ ⟨rfl, p169⟩
     refine Va (dx_loadP rfl ty_one_9 rfl p169) rfl rfl (Pu rfl (Va (dx_neqT rfl rfl rfl) rfl rfl (Ni (hK167 ?_))))
     refine WC.cond rfl (fun c170 => ?_) (fun c170 => ?_)
     ·
      replace c170 := bnot_t c170
      replace c170 := dF c170
      refine Sq fun K171 hK171 => ?_
      have hne : ¬ r100 = name := by first | assumption | simp_all
      have hc1 : putC p.names name = 1 := putC_not (by rw [← ha_, ← hia]; exact e101) hne
      have n2 : (putN p.names name)[k + 1]? = some r100 := by have h_ := putN_ge (nm := name) (i := i) (by omega) e101 hne; rw [hc1] at h_; rw [show k = i by omega]; exact h_
      refine WC.drawM 8 [(some 48, .is (.pointer (some ⟨W13.heap.size, 3, none⟩))), (some 49, .is (u116)), (some 50, .is (.pointer (some ⟨w.heap.size, 3, none⟩))), (some 51, .is (p.nv)), (some 52, .is (.int .i64 (i : Int))), (some 53, .by fun u W => PtR (W135.heap.size :: W131.heap.size :: W106.heap.size :: W36.heap.size :: W13.heap.size :: W7.heap.size :: W2.heap.size :: w.heap.size :: L) W u [.string r100]), (some 54, .is (.string r100)), (some 55, .by fun u W => RdF 1 (W135.heap.size :: W131.heap.size :: W106.heap.size :: W36.heap.size :: W13.heap.size :: W7.heap.size :: W2.heap.size :: w.heap.size :: L) W u [[.string r100]])] [[], [0], [], [2], [], [3, 4], [5], [6]] (by kernel_rfl) (by kernel_rfl) (by kernel_rfl) (by kernel_rfl) (by kernel_rfl) (by kernel_rfl) (by kernel_rfl) ⟨fun _ _ _ hb h => h.below hb, fun _ _ _ hb h => h.below hb, trivial⟩ ?_ ?_
      ·
       refine Dc (fun Wd hd => ?_) ?_
       ·
        exact Dd (dx_fld (o1 := 3) rfl ty_fld_26_3_3 rfl rfl) rfl
       refine Dc (fun Wd hd => ?_) ?_
       ·
        have k166 := k166.below hd
        exact Dd (dx_load rfl ty_one_23 rfl (k166.cell (k := 3) rfl)) rfl
       refine Dc (fun Wd hd => ?_) ?_
       ·
        exact Dd (dx_fld (o1 := 3) rfl ty_fld_26_3_3 rfl rfl) rfl
       refine Dc (fun Wd hd => ?_) ?_
       ·
        have k3 := k3.below hd
        exact Dd (dx_load rfl ty_one_23 rfl (k3.cell (k := 3) rfl)) rfl
       refine Dc (fun Wd hd => ?_) ?_
       ·
        exact Dd (dx_move rfl rfl) rfl
       refine Dc (fun Wd hd => ?_) ?_
       ·
        have hnp := hnp.below hd
        exact (dx_idxF i rfl ty_slice_23 rfl rfl hnp (by omega) (at_mapX e101)).mono (fun v W' h => ⟨by rw [← h.1]; exact Below.refl _ _, by rw [← h.1]; exact h.2⟩)
       refine Dc (fun Wd hd => ?_) ?_
       ·
        intro u11_5 p11_5
        exact Dd (dx_loadP rfl ty_one_9 rfl p11_5) rfl
       refine Dc (fun Wd hd => ?_) ?_
       ·
        exact (dx_lit1 (r := [.string r100]) rfl ty_ap_23 (by decide) (by decide) rfl rfl rfl).mono (fun v W' h => ⟨h.2.1, h.1.notin (LL.below hL hd) (Nat.le_refl _)⟩)
       exact trivial
      ·
       intro W172 b173
       intro u11_5 p11_5
       intro u11_7 p11_7
       replace hnp := hnp.below b173
       replace hip := hip.below b173
       replace hcp := hcp.below b173
       replace hnq := hnq.below b173
       replace hiq := hiq.below b173
       replace hcq := hcq.below b173
       replace hag := hag.below b173
       replace k3 := k3.below b173
       replace k8 := k8.below b173
       replace k14 := k14.below b173
       replace k166 := k166.below b173
       replace k118 := k118.below b173
       replace k149 := k149.below b173
       replace hB := below_then hB b173
       replace hL := LL.below hL b173
       refine Ge (dx_apO' (rs := ([name].map eS)) (news := [eS r100]) rfl ty_ap_23 rfl rfl k118 (RdF.less (L' := []) p11_7 (fun x hx => by cases hx)) (fun r hr => by rw [List.mem_singleton.1 hr]; exact (oc_cons rfl oc_nil)) (by simp only [List.length_map, List.length_append, List.length_cons, List.length_nil]; unfold maxLen; omega) (by simp only [List.length_map, List.length_append, List.length_cons, List.length_nil]; omega)) rfl rfl ?_
       rintro u174 W175 ⟨B180, k176, g179⟩
       rw [show ([name].map eS) ++ [eS r100] = (([name] ++ [r100]).map eS) from by simp only [List.map_append, List.map_cons, List.map_nil]] at k176
       have q182 := hag.2.1
       have l183 : b0 ≤ B180 := g179.le l124 (by omega)
       have n187 : W13.heap.size ≠ B180 := k166.grow_ne g179 n128
       have n190 : W135.heap.size ≠ B180 := k149.grow_ne g179 n161.symm
       have l181 := g179.le l130 hB.size
       replace hnp := hnp.grow' g179 (.tail _ (.tail _ (.head _)))
       replace hip := hip.grow' g179 (.tail _ (.tail _ (.head _)))
       replace hcp := hcp.grow' g179 (.tail _ (.tail _ (.head _)))
       replace hnq := hnq.grow' g179 (.tail _ (.tail _ (.head _)))
       replace hiq := hiq.grow' g179 (.tail _ (.tail _ (.head _)))
       replace hcq := hcq.grow' g179 (.tail _ (.tail _ (.head _)))
       replace hag := hag.grow' g179 (.tail _ (.tail _ (.head _)))
       replace k3 := k3.grow g179 n125
       replace k8 := k8.grow g179 n126
       replace k14 := k14.grow g179 n127
       replace k166 := k166.grow g179 n128
       replace k149 := k149.grow g179 n161.symm
       replace hB := g179.below hB l130 hB.size
       replace hL := LL.grow hL g179 k176.lt
       refine Va (dx_fld (o1 := 3) rfl ty_fld_26_3_3 rfl rfl) rfl rfl ?_
       refine WL.do (dx_store (cs' := [.int .i64 6, .int .i64 0, .string ⟨#[]⟩, u174, u147]) (vs := [u174]) rfl ty_size_23_1 rfl rfl (oc_one k176.one) (oc_cons k176.one oc_nil) k166 rfl (Nat.le_of_ble_eq_true rfl) rfl) rfl ?_
       rintro _ W191 ⟨k193, o192⟩
       replace k3 := k3.other o192 n25
       replace k8 := k8.other o192 n26
       replace k14 := k14.other o192 n27
       replace k149 := k149.other o192 n159.symm
       replace k176 := k176.other o192 n187.symm
       clear k166
       replace hnp := hnp.only o192 (.tail _ (.tail _ (.tail _ (.tail _ (.tail _ (.head _))))))
       replace hip := hip.only o192 (.tail _ (.tail _ (.tail _ (.tail _ (.tail _ (.head _))))))
       replace hcp := hcp.only o192 (.tail _ (.tail _ (.tail _ (.tail _ (.tail _ (.head _))))))
       replace hnq := hnq.only o192 (.tail _ (.tail _ (.tail _ (.tail _ (.tail _ (.head _))))))
       replace hiq := hiq.only o192 (.tail _ (.tail _ (.tail _ (.tail _ (.tail _ (.head _))))))
       replace hcq := hcq.only o192 (.tail _ (.tail _ (.tail _ (.tail _ (.tail _ (.head _))))))
       replace hag := hag.only o192 (.tail _ (.tail _ (.tail _ (.tail _ (.tail _ (.head _))))))
       replace hB := o192.below hB l28
       replace hL := LL.only hL o192
       refine Ni (hK171 ?_)
       obtain ⟨t194, ht195⟩ : ∃ x, p.items[i]? = some x := ⟨_, List.getElem?_eq_getElem (by omega)⟩
       have hot194 := (hcp t194 (List.mem_of_getElem? ht195))
       obtain ⟨hnt194, hit194, hct194⟩ : RdF 1 (B180 :: W135.heap.size :: W131.heap.size :: W106.heap.size :: W36.heap.size :: W13.heap.size :: W7.heap.size :: W2.heap.size :: w.heap.size :: L) W191 t194.nv (t194.names.map eS) ∧ RdF 5 (B180 :: W135.heap.size :: W131.heap.size :: W106.heap.size :: W36.heap.size :: W13.heap.size :: W7.heap.size :: W2.heap.size :: w.heap.size :: L) W191 t194.iv (t194.items.map encT) ∧ ∀ c ∈ t194.items, RdT n (B180 :: W135.heap.size :: W131.heap.size :: W106.heap.size :: W36.heap.size :: W13.heap.size :: W7.heap.size :: W2.heap.size :: w.heap.size :: L) W191 c := by cases n with | zero => exact hot194.elim | succ n => exact ⟨hot194.1, hot194.2.1, fun c hc => (hot194.2.2 c hc).up⟩
       have t2 : (putT p.names name p.items q)[k + 1]? = some t194 := by have h_ := putT_ge (x := q) hlen (i := i) (by omega) e101 hne ht195; rw [hc1] at h_; rw [show k = i by omega]; exact h_
       refine WC.drawM 8 [(some 58, .is (.pointer (some ⟨W13.heap.size, 4, none⟩))), (some 59, .is (u147)), (some 60, .is (.pointer (some ⟨w.heap.size, 4, none⟩))), (some 61, .is (p.iv)), (some 62, .is (.int .i64 (i : Int))), (some 63, .by fun u W => PtR (B180 :: W135.heap.size :: W131.heap.size :: W106.heap.size :: W36.heap.size :: W13.heap.size :: W7.heap.size :: W2.heap.size :: w.heap.size :: L) W u (encT t194)), (some 64, .is (.agg #[.int .i64 t194.kind, .int .i64 t194.num, .string t194.text, t194.nv, t194.iv])), (some 65, .by fun u W => RdF 5 (B180 :: W135.heap.size :: W131.heap.size :: W106.heap.size :: W36.heap.size :: W13.heap.size :: W7.heap.size :: W2.heap.size :: w.heap.size :: L) W u [[.int .i64 t194.kind, .int .i64 t194.num, .string t194.text, t194.nv, t194.iv]])] [[], [0], [], [2], [], [3, 4], [5], [6]] (by kernel_rfl) (by kernel_rfl) (by kernel_rfl) (by kernel_rfl) (by kernel_rfl) (by kernel_rfl) (by kernel_rfl) ⟨fun _ _ _ hb h => h.below hb, fun _ _ _ hb h => h.below hb, trivial⟩ ?_ ?_
       ·
        refine Dc (fun Wd hd => ?_) ?_
        ·
         exact Dd (dx_fld (o1 := 4) rfl ty_fld_26_4_4 rfl rfl) rfl
        refine Dc (fun Wd hd => ?_) ?_
        ·
         have k193 := k193.below hd
         exact Dd (dx_load rfl ty_one_24 rfl (k193.cell (k := 4) rfl)) rfl
        refine Dc (fun Wd hd => ?_) ?_
        ·
         exact Dd (dx_fld (o1 := 4) rfl ty_fld_26_4_4 rfl rfl) rfl
        refine Dc (fun Wd hd => ?_) ?_
        ·
         have k3 := k3.below hd
         exact Dd (dx_load rfl ty_one_24 rfl (k3.cell (k := 4) rfl)) rfl
        refine Dc (fun Wd hd => ?_) ?_
        ·
         exact Dd (dx_move rfl rfl) rfl
        refine Dc (fun Wd hd => ?_) ?_
        ·
         have hip := hip.below hd
         exact (dx_idxF i rfl ty_slice_24 rfl rfl hip (by omega) (at_mapX ht195)).mono (fun v W' h => ⟨by rw [← h.1]; exact Below.refl _ _, by rw [← h.1]; exact h.2⟩)
        refine Dc (fun Wd hd => ?_) ?_
        ·
         intro u12_5 p12_5
         exact Dd (dx_loadPN rfl ty_agg_26_5 rfl p12_5 rfl) rfl
        refine Dc (fun Wd hd => ?_) ?_
        ·
         exact (dx_lit1 (r := [.int .i64 t194.kind, .int .i64 t194.num, .string t194.text, t194.nv, t194.iv]) rfl ty_ap_24 (by decide) (by decide) rfl rfl rfl).mono (fun v W' h => ⟨h.2.1, h.1.notin (LL.below hL hd) (Nat.le_refl _)⟩)
        exact trivial
       ·
        intro W196 b197
        intro u12_5 p12_5
        intro u12_7 p12_7
        replace hnp := hnp.below b197
        replace hip := hip.below b197
        replace hcp := hcp.below b197
        replace hnq := hnq.below b197
        replace hiq := hiq.below b197
        replace hcq := hcq.below b197
        replace hag := hag.below b197
        replace k3 := k3.below b197
        replace k8 := k8.below b197
        replace k14 := k14.below b197
        replace k193 := k193.below b197
        replace k149 := k149.below b197
        replace k176 := k176.below b197
        replace hB := below_then hB b197
        replace hL := LL.below hL b197
        refine Ge (dx_apO' (rs := ([q].map encT)) (news := [encT t194]) rfl ty_ap_24 rfl rfl k149 (RdF.less (L' := []) p12_7 (fun x hx => by cases hx)) (fun r hr => by rw [List.mem_singleton.1 hr]; exact (hcp t194 (List.mem_of_getElem? ht195)).oc) (by simp only [List.length_map, List.length_append, List.length_cons, List.length_nil]; unfold maxLen; omega) (by simp only [List.length_map, List.length_append, List.length_cons, List.length_nil]; omega)) rfl rfl ?_
        rintro u198 W199 ⟨B204, k200, g203⟩
        rw [show ([q].map encT) ++ [encT t194] = (([q] ++ [t194]).map encT) from by simp only [List.map_append, List.map_cons, List.map_nil]] at k200
        have q206 := hag.2.1
        have l207 : b0 ≤ B204 := g203.le l155 (by omega)
        have n211 : W13.heap.size ≠ B204 := k193.grow_ne g203 n159
        have n214 : B180 ≠ B204 := k176.grow_ne g203 n190.symm
        have l205 := g203.le l163 hB.size
        replace hnp := hnp.grow' g203 (.tail _ (.head _))
        replace hip := hip.grow' g203 (.tail _ (.head _))
        replace hcp := hcp.grow' g203 (.tail _ (.head _))
        replace hnq := hnq.grow' g203 (.tail _ (.head _))
        replace hiq := hiq.grow' g203 (.tail _ (.head _))
        replace hcq := hcq.grow' g203 (.tail _ (.head _))
        replace hag := hag.grow' g203 (.tail _ (.head _))
        replace k3 := k3.grow g203 n156
        replace k8 := k8.grow g203 n157
        replace k14 := k14.grow g203 n158
        replace k193 := k193.grow g203 n159
        replace k176 := k176.grow g203 n190.symm
        replace hB := g203.below hB l163 hB.size
        replace hL := LL.grow hL g203 k200.lt
        refine Va (dx_fld (o1 := 4) rfl ty_fld_26_4_4 rfl rfl) rfl rfl ?_
        refine WL.do (dx_store (cs' := [.int .i64 6, .int .i64 0, .string ⟨#[]⟩, u174, u198]) (vs := [u198]) rfl ty_size_24_1 rfl rfl (oc_one k200.one) (oc_cons k200.one oc_nil) k193 rfl (Nat.le_of_ble_eq_true rfl) rfl) rfl ?_
        rintro _ W215 ⟨k217, o216⟩
        replace k3 := k3.other o216 n25
        replace k8 := k8.other o216 n26
        replace k14 := k14.other o216 n27
        replace k176 := k176.other o216 n187.symm
        replace k200 := k200.other o216 n211.symm
        clear k193
        replace hnp := hnp.only o216 (.tail _ (.tail _ (.tail _ (.tail _ (.tail _ (.tail _ (.head _)))))))
        replace hip := hip.only o216 (.tail _ (.tail _ (.tail _ (.tail _ (.tail _ (.tail _ (.head _)))))))
        replace hcp := hcp.only o216 (.tail _ (.tail _ (.tail _ (.tail _ (.tail _ (.tail _ (.head _)))))))
        replace hnq := hnq.only o216 (.tail _ (.tail _ (.tail _ (.tail _ (.tail _ (.tail _ (.head _)))))))
        replace hiq := hiq.only o216 (.tail _ (.tail _ (.tail _ (.tail _ (.tail _ (.tail _ (.head _)))))))
        replace hcq := hcq.only o216 (.tail _ (.tail _ (.tail _ (.tail _ (.tail _ (.tail _ (.head _)))))))
        replace hag := hag.only o216 (.tail _ (.tail _ (.tail _ (.tail _ (.tail _ (.tail _ (.head _)))))))
        replace hB := o216.below hB l28
        replace hL := LL.only hL o216
        refine Ni (hK40 (Rg (Pu rfl (Va (dx_add (r := (i : Int) + 1) rfl rfl rfl (wrap64_id (by omega))) rfl rfl (Pu rfl (Ni ?_))))))
        have eputN : ([name] ++ [r100]) = (putN p.names name).take (k + 2) := by rw [show ([name] ++ [r100]) = (putN p.names name).take k ++ ([name] ++ [r100]) from by rw [hns0]; rfl]; rw [← List.append_assoc]; rw [take_add n1]; rw [take_add n2]; (try rfl)
        have eputT : ([q] ++ [t194]) = (putT p.names name p.items q).take (k + 2) := by rw [show ([q] ++ [t194]) = (putT p.names name p.items q).take k ++ ([q] ++ [t194]) from by rw [hts0]; rfl]; rw [← List.append_assoc]; rw [take_add t1]; rw [take_add t2]; (try rfl)
        have hts2 : RdTs (n + 1) (B180 :: B204 :: W13.heap.size :: W7.heap.size :: W2.heap.size :: w.heap.size :: L) W215 ([q] ++ [t194]) := fun c hc_ => by
         simp only [List.mem_append, List.mem_singleton, or_assoc] at hc_
         rcases hc_ with h_ | h_
         · (rw [h_]; exact (show RdT (n + 1) (B204 :: B180 :: W135.heap.size :: W131.heap.size :: W106.heap.size :: W36.heap.size :: W13.heap.size :: W7.heap.size :: W2.heap.size :: w.heap.size :: L) W215 q from ⟨hnq, hiq, hcq⟩).less (fun x hx => by simp only [List.mem_cons] at hx ⊢; rcases hx with h_ | h_ | h_ <;> simp [h_]))
         · (rw [h_]; exact (hcp t194 (List.mem_of_getElem? ht195)).up.less (fun x hx => by simp only [List.mem_cons] at hx ⊢; rcases hx with h_ | h_ | h_ <;> simp [h_]))
        have hm2 : MembI (n + 1) b0 (W13.heap.size :: W7.heap.size :: W2.heap.size :: w.heap.size :: L) u174 ((putN p.names name).take (k + 2)) u198 ((putT p.names name p.items q).take (k + 2)) W215 := ⟨hb0L, .inr ⟨B180, B204, n214, by omega, by omega, (by rw [← eputN]; exact k176), (by rw [← eputT]; exact k200), (by rw [← eputT]; exact hts2)⟩⟩
        have hL_ := hL.less (fun x hx => (.tail _ (.tail _ (.tail _ (.tail _ (.tail _ (.tail _ hx)))))))
        replace hag : AgL W29 (W13.heap.size :: W7.heap.size :: W2.heap.size :: w.heap.size :: L) (W13.heap.size :: W7.heap.size :: W2.heap.size :: w.heap.size :: L) W215 := ⟨fun _ h _ => h, hag.2⟩
        replace hnp := hnp6.agree hag.2
        replace hip := hip6.agree hag.2
        replace hnq := hnq6.agree hag.2
        replace hiq := hiq6.agree hag.2
        replace hcp : RdTs n (W13.heap.size :: W7.heap.size :: W2.heap.size :: w.heap.size :: L) W215 p.items := fun c hc_ => (hcp6 c hc_).agree hag.2
        replace hcq : RdTs n (W13.heap.size :: W7.heap.size :: W2.heap.size :: w.heap.size :: L) W215 q.items := fun c hc_ => (hcq6 c hc_).agree hag.2
        replace hL := hL_
        exact hK35 (i + 1) (k + 2) u174 u198 ⟨(by omega), (by omega), (fun h_ => by omega), (fun h_ => by omega), hB, hL, hnp, hip, hcp, hnq, hiq, hcq, hag, hm2, k3, k8, k14, k217⟩ (by omega) (by repeat first | exact trivial | exact And.intro rfl trivial | refine And.intro rfl ?_ | refine And.intro (congrArg (fun z : Int => some (Value.int .i64 z)) (by omega)) ?_ | refine And.intro (congrArg (fun z : Bool => some (Value.bool z)) (by first | exact (decide_eq_true (by omega)).symm | exact (decide_eq_false (by omega)).symm)) ?_)
     ·
      replace c170 := bnot_f c170
      replace c170 := dT c170
      have hc0 := (putC_found (nm := name) hris (by rw [← (show r100 = name by first | assumption | exact Classical.not_not.1 (by assumption) | simp_all)]; exact e101)).1
      refine WC.skip (hK40 (Rg (Pu rfl (Va (dx_add (r := (i : Int) + 1) rfl rfl rfl (wrap64_id (by omega))) rfl rfl (Pu rfl (Ni ?_))))))
      have eputN : [name] = (putN p.names name).take (k + 1) := by rw [show [name] = (putN p.names name).take k ++ [name] from by rw [hns0]; rfl]; rw [take_add n1]; (try rfl)
      have eputT : [q] = (putT p.names name p.items q).take (k + 1) := by rw [show [q] = (putT p.names name p.items q).take k ++ [q] from by rw [hts0]; rfl]; rw [take_add t1]; (try rfl)
      have hts2 : RdTs (n + 1) (W106.heap.size :: W135.heap.size :: W13.heap.size :: W7.heap.size :: W2.heap.size :: w.heap.size :: L) W164 [q] := fun c hc_ => by
       simp only [List.mem_append, List.mem_singleton, or_assoc] at hc_
       have h_ := hc_
       (rw [h_]; exact (show RdT (n + 1) (W135.heap.size :: W131.heap.size :: W106.heap.size :: W36.heap.size :: W13.heap.size :: W7.heap.size :: W2.heap.size :: w.heap.size :: L) W164 q from ⟨hnq, hiq, hcq⟩).less (fun x hx => by simp only [List.mem_cons] at hx ⊢; rcases hx with h_ | h_ | h_ <;> simp [h_]))
      have hm2 : MembI (n + 1) b0 (W13.heap.size :: W7.heap.size :: W2.heap.size :: w.heap.size :: L) u116 ((putN p.names name).take (k + 1)) u147 ((putT p.names name p.items q).take (k + 1)) W164 := ⟨hb0L, .inr ⟨W106.heap.size, W135.heap.size, n161, by omega, by omega, (by rw [← eputN]; exact k118), (by rw [← eputT]; exact k149), (by rw [← eputT]; exact hts2)⟩⟩
      have hL_ := hL.less (fun x hx => (.tail _ (.tail _ (.tail _ (.tail _ hx)))))
      replace hag : AgL W29 (W13.heap.size :: W7.heap.size :: W2.heap.size :: w.heap.size :: L) (W13.heap.size :: W7.heap.size :: W2.heap.size :: w.heap.size :: L) W164 := ⟨fun _ h _ => h, hag.2⟩
      replace hnp := hnp6.agree hag.2
      replace hip := hip6.agree hag.2
      replace hnq := hnq6.agree hag.2
      replace hiq := hiq6.agree hag.2
      replace hcp : RdTs n (W13.heap.size :: W7.heap.size :: W2.heap.size :: w.heap.size :: L) W164 p.items := fun c hc_ => (hcp6 c hc_).agree hag.2
      replace hcq : RdTs n (W13.heap.size :: W7.heap.size :: W2.heap.size :: w.heap.size :: L) W164 q.items := fun c hc_ => (hcq6 c hc_).agree hag.2
      replace hL := hL_
      exact hK35 (i + 1) (k + 1) u116 u147 ⟨(by omega), (by omega), (fun h_ => by omega), (fun h_ => by omega), hB, hL, hnp, hip, hcp, hnq, hiq, hcq, hag, hm2, k3, k8, k14, k166⟩ (by omega) (by repeat first | exact trivial | exact And.intro rfl trivial | refine And.intro rfl ?_ | refine And.intro (congrArg (fun z : Int => some (Value.int .i64 z)) (by omega)) ?_ | refine And.intro (congrArg (fun z : Bool => some (Value.bool z)) (by first | exact (decide_eq_true (by omega)).symm | exact (decide_eq_false (by omega)).symm)) ?_)
    ·
     have n218 : Bn ≠ w.heap.size := by have := hb0L (w.heap.size) (.tail _ (.tail _ (.tail _ (.head _)))); omega
     have n219 : Bi ≠ w.heap.size := by have := hb0L (w.heap.size) (.tail _ (.tail _ (.tail _ (.head _)))); omega
     have n220 : Bn ≠ W2.heap.size := by have := hb0L (W2.heap.size) (.tail _ (.tail _ (.head _))); omega
     have n221 : Bi ≠ W2.heap.size := by have := hb0L (W2.heap.size) (.tail _ (.tail _ (.head _))); omega
     have n222 : Bn ≠ W7.heap.size := by have := hb0L (W7.heap.size) (.tail _ (.head _)); omega
     have n223 : Bi ≠ W7.heap.size := by have := hb0L (W7.heap.size) (.tail _ (.head _)); omega
     have n224 : Bn ≠ W13.heap.size := by have := hb0L (W13.heap.size) (.head _); omega
     have n225 : Bi ≠ W13.heap.size := by have := hb0L (W13.heap.size) (.head _); omega
     have lbn : w.heap.size ≤ Bn := by omega
     have lbi : w.heap.size ≤ Bi := by omega
     replace hag := (hag.add (B := Bi) (by omega)).add (B := Bn) (by omega)
     replace hL := LL.cons (LL.cons hL hOi.lt) hOn.lt
     replace hnp := hag.rd hnp6
     replace hip := hag.rd hip6
     replace hnq := hag.rd hnq6
     replace hiq := hag.rd hiq6
     replace hcp : RdTs n (Bn :: Bi :: W13.heap.size :: W7.heap.size :: W2.heap.size :: w.heap.size :: L) W36 p.items := fun c hc_ => hag.rt (hcp6 c hc_)
     replace hcq : RdTs n (Bn :: Bi :: W13.heap.size :: W7.heap.size :: W2.heap.size :: w.heap.size :: L) W36 q.items := fun c hc_ => hag.rt (hcq6 c hc_)
     refine Rg (Va (dx_fld (o1 := 3) rfl ty_fld_26_3_3 rfl rfl) rfl rfl (Va (dx_load rfl ty_one_23 rfl (k31.cell (k := 3) rfl)) rfl rfl (Pu rfl ?_)))
     refine Ge (dx_lit1 (r := [.string name]) rfl ty_ap_23 (by decide) (by decide) rfl rfl rfl) rfl rfl ?_
     rintro u230 W226 ⟨k227, b228, z229⟩
     have l237 := hB.size
     replace hnp := hnp.more b228 (Nat.le_refl _)
     replace hip := hip.more b228 (Nat.le_refl _)
     replace hcp := hcp.more b228 (Nat.le_refl _)
     replace hnq := hnq.more b228 (Nat.le_refl _)
     replace hiq := hiq.more b228 (Nat.le_refl _)
     replace hcq := hcq.more b228 (Nat.le_refl _)
     replace hag := hag.more b228 (Nat.le_refl _)
     replace hts := hts.more b228 (Nat.le_refl _)
     replace k3 := k3.below b228
     replace k8 := k8.below b228
     replace k14 := k14.below b228
     replace k31 := k31.below b228
     replace hOn := hOn.below b228
     replace hOi := hOi.below b228
     replace hB := below_then hB b228
     replace hL := LL.more hL z229
     refine Ge (dx_apO' (rs := (((putN p.names name).take k).map eS)) (news := [eS name]) rfl ty_ap_23 rfl rfl hOn (k227.rd (L := []) (by simp)) (fun r hr => by rw [List.mem_singleton.1 hr]; exact (oc_cons rfl oc_nil)) (by simp only [List.length_map, List.length_append, List.length_cons, List.length_nil]; unfold maxLen; omega) (by simp only [List.length_map, List.length_append, List.length_cons, List.length_nil]; omega)) rfl rfl ?_
     rintro u238 W239 ⟨B244, k240, g243⟩
     rw [show (((putN p.names name).take k).map eS) ++ [eS name] = ((((putN p.names name).take k) ++ [name]).map eS) from by simp only [List.map_append, List.map_cons, List.map_nil]] at k240
     have q246 := hag.2.1
     have l247 : b0 ≤ B244 := g243.le hbn (by omega)
     have n248 : w.heap.size ≠ B244 := k3.grow_ne g243 n218.symm
     have n249 : W2.heap.size ≠ B244 := k8.grow_ne g243 n220.symm
     have n250 : W7.heap.size ≠ B244 := k14.grow_ne g243 n222.symm
     have n251 : W13.heap.size ≠ B244 := k31.grow_ne g243 n224.symm
     have n252 : Bi ≠ B244 := hOi.grow_ne g243 hni.symm
     have l245 := g243.le lbn hB.size
     replace hnp := hnp.grow' g243 (.tail _ (.head _))
     replace hip := hip.grow' g243 (.tail _ (.head _))
     replace hcp := hcp.grow' g243 (.tail _ (.head _))
     replace hnq := hnq.grow' g243 (.tail _ (.head _))
     replace hiq := hiq.grow' g243 (.tail _ (.head _))
     replace hcq := hcq.grow' g243 (.tail _ (.head _))
     replace hag := hag.grow' g243 (.tail _ (.head _))
     replace hts := hts.grow' g243 (.tail _ (.head _))
     replace k3 := k3.grow g243 n218.symm
     replace k8 := k8.grow g243 n220.symm
     replace k14 := k14.grow g243 n222.symm
     replace k31 := k31.grow g243 n224.symm
     replace hOi := hOi.grow g243 hni.symm
     replace hB := g243.below hB lbn hB.size
     replace hL := LL.grow hL g243 k240.lt
     refine Va (dx_fld (o1 := 3) rfl ty_fld_26_3_3 rfl rfl) rfl rfl ?_
     refine WL.do (dx_store (cs' := [.int .i64 6, .int .i64 0, .string ⟨#[]⟩, u238, iv]) (vs := [u238]) rfl ty_size_23_1 rfl rfl (oc_one k240.one) (oc_cons k240.one oc_nil) k31 rfl (Nat.le_of_ble_eq_true rfl) rfl) rfl ?_
     rintro _ W254 ⟨k256, o255⟩
     replace k3 := k3.other o255 n25
     replace k8 := k8.other o255 n26
     replace k14 := k14.other o255 n27
     replace hOi := hOi.other o255 n225
     replace k240 := k240.other o255 n251.symm
     clear k31
     replace hnp := hnp.only o255 (.tail _ (.tail _ (.tail _ (.tail _ (.head _)))))
     replace hip := hip.only o255 (.tail _ (.tail _ (.tail _ (.tail _ (.head _)))))
     replace hcp := hcp.only o255 (.tail _ (.tail _ (.tail _ (.tail _ (.head _)))))
     replace hnq := hnq.only o255 (.tail _ (.tail _ (.tail _ (.tail _ (.head _)))))
     replace hiq := hiq.only o255 (.tail _ (.tail _ (.tail _ (.tail _ (.head _)))))
     replace hcq := hcq.only o255 (.tail _ (.tail _ (.tail _ (.tail _ (.head _)))))
     replace hag := hag.only o255 (.tail _ (.tail _ (.tail _ (.tail _ (.head _)))))
     replace hts := hts.only o255 (.tail _ (.tail _ (.tail _ (.tail _ (.head _)))))
     replace hB := o255.below hB l28
     replace hL := LL.only hL o255
     refine Ni (hK105 (Sq fun K257 hK257 => (Rg (Va (dx_fld (o1 := 4) rfl ty_fld_26_4_4 rfl rfl) rfl rfl (Va (dx_load rfl ty_one_24 rfl (k256.cell (k := 4) rfl)) rfl rfl (Va (dx_loadN rfl ty_agg_26_5 rfl k8.range rfl) rfl rfl ?_))))))
     refine Ge (dx_lit1 (r := [.int .i64 q.kind, .int .i64 q.num, .string q.text, q.nv, q.iv]) rfl ty_ap_24 (by decide) (by decide) rfl rfl rfl) rfl rfl ?_
     rintro u262 W258 ⟨k259, b260, z261⟩
     have l270 := hB.size
     replace hnp := hnp.more b260 (Nat.le_refl _)
     replace hip := hip.more b260 (Nat.le_refl _)
     replace hcp := hcp.more b260 (Nat.le_refl _)
     replace hnq := hnq.more b260 (Nat.le_refl _)
     replace hiq := hiq.more b260 (Nat.le_refl _)
     replace hcq := hcq.more b260 (Nat.le_refl _)
     replace hag := hag.more b260 (Nat.le_refl _)
     replace hts := hts.more b260 (Nat.le_refl _)
     replace k3 := k3.below b260
     replace k8 := k8.below b260
     replace k14 := k14.below b260
     replace k256 := k256.below b260
     replace hOi := hOi.below b260
     replace k240 := k240.below b260
     replace hB := below_then hB b260
     replace hL := LL.more hL z261
     refine Ge (dx_apO' (rs := (((putT p.names name p.items q).take k).map encT)) (news := [encT q]) rfl ty_ap_24 rfl rfl hOi (k259.rd (L := []) (by simp)) (fun r hr => by rw [List.mem_singleton.1 hr]; exact (show RdT (n + 1) (W254.heap.size :: B244 :: W36.heap.size :: Bn :: Bi :: W13.heap.size :: W7.heap.size :: W2.heap.size :: w.heap.size :: L) W258 q from ⟨hnq, hiq, hcq⟩).oc) (by simp only [List.length_map, List.length_append, List.length_cons, List.length_nil]; unfold maxLen; omega) (by simp only [List.length_map, List.length_append, List.length_cons, List.length_nil]; omega)) rfl rfl ?_
     rintro u271 W272 ⟨B277, k273, g276⟩
     rw [show (((putT p.names name p.items q).take k).map encT) ++ [encT q] = ((((putT p.names name p.items q).take k) ++ [q]).map encT) from by simp only [List.map_append, List.map_cons, List.map_nil]] at k273
     have q279 := hag.2.1
     have l280 : b0 ≤ B277 := g276.le hbi (by omega)
     have n281 : w.heap.size ≠ B277 := k3.grow_ne g276 n219.symm
     have n282 : W2.heap.size ≠ B277 := k8.grow_ne g276 n221.symm
     have n283 : W7.heap.size ≠ B277 := k14.grow_ne g276 n223.symm
     have n284 : W13.heap.size ≠ B277 := k256.grow_ne g276 n225.symm
     have n286 : B244 ≠ B277 := k240.grow_ne g276 n252.symm
     have l278 := g276.le lbi hB.size
     replace hnp := hnp.grow' g276 (.tail _ (.tail _ (.tail _ (.tail _ (.head _)))))
     replace hip := hip.grow' g276 (.tail _ (.tail _ (.tail _ (.tail _ (.head _)))))
     replace hcp := hcp.grow' g276 (.tail _ (.tail _ (.tail _ (.tail _ (.head _)))))
     replace hnq := hnq.grow' g276 (.tail _ (.tail _ (.tail _ (.tail _ (.head _)))))
     replace hiq := hiq.grow' g276 (.tail _ (.tail _ (.tail _ (.tail _ (.head _)))))
     replace hcq := hcq.grow' g276 (.tail _ (.tail _ (.tail _ (.tail _ (.head _)))))
     replace hag := hag.grow' g276 (.tail _ (.tail _ (.tail _ (.tail _ (.head _)))))
     replace hts := hts.grow' g276 (.tail _ (.tail _ (.tail _ (.tail _ (.head _)))))
     replace k3 := k3.grow g276 n219.symm
     replace k8 := k8.grow g276 n221.symm
     replace k14 := k14.grow g276 n223.symm
     replace k256 := k256.grow g276 n225.symm
     replace k240 := k240.grow g276 n252.symm
     replace hB := g276.below hB lbi hB.size
     replace hL := LL.grow hL g276 k273.lt
     refine Va (dx_fld (o1 := 4) rfl ty_fld_26_4_4 rfl rfl) rfl rfl ?_
     refine WL.do (dx_store (cs' := [.int .i64 6, .int .i64 0, .string ⟨#[]⟩, u238, u271]) (vs := [u271]) rfl ty_size_24_1 rfl rfl (oc_one k273.one) (oc_cons k273.one oc_nil) k256 rfl (Nat.le_of_ble_eq_true rfl) rfl) rfl ?_
     rintro _ W288 ⟨k290, o289⟩
     replace k3 := k3.other o289 n25
     replace k8 := k8.other o289 n26
     replace k14 := k14.other o289 n27
     replace k240 := k240.other o289 n251.symm
     replace k273 := k273.other o289 n284.symm
     clear k256
     replace hnp := hnp.only o289 (.tail _ (.tail _ (.tail _ (.tail _ (.tail _ (.tail _ (.head _)))))))
     replace hip := hip.only o289 (.tail _ (.tail _ (.tail _ (.tail _ (.tail _ (.tail _ (.head _)))))))
     replace hcp := hcp.only o289 (.tail _ (.tail _ (.tail _ (.tail _ (.tail _ (.tail _ (.head _)))))))
     replace hnq := hnq.only o289 (.tail _ (.tail _ (.tail _ (.tail _ (.tail _ (.tail _ (.head _)))))))
     replace hiq := hiq.only o289 (.tail _ (.tail _ (.tail _ (.tail _ (.tail _ (.tail _ (.head _)))))))
     replace hcq := hcq.only o289 (.tail _ (.tail _ (.tail _ (.tail _ (.tail _ (.tail _ (.head _)))))))
     replace hag := hag.only o289 (.tail _ (.tail _ (.tail _ (.tail _ (.tail _ (.tail _ (.head _)))))))
     replace hts := hts.only o289 (.tail _ (.tail _ (.tail _ (.tail _ (.tail _ (.tail _ (.head _)))))))
     replace hB := o289.below hB l28
     replace hL := LL.only hL o289
     refine Ni (hK257 (Rg (Pu rfl (Ni (hK41 (Sq fun K291 hK291 => (Rg ?_)))))))
     refine Va (dx_fld (o1 := 3) rfl ty_fld_26_3_3 rfl rfl) rfl rfl (Va (dx_load rfl ty_one_23 rfl (k3.cell (k := 3) rfl)) rfl rfl (Pu rfl ?_))
     refine Ge (dx_idxF i rfl ty_slice_23 rfl rfl hnp (by omega) (at_mapX e101)) rfl rfl ?_
     rintro u292 _ ⟨rfl, p293⟩
     refine Va (dx_loadP rfl ty_one_9 rfl p293) rfl rfl (Pu rfl (Va (dx_neqT rfl rfl rfl) rfl rfl (Ni (hK291 ?_))))
     refine WC.cond rfl (fun c294 => ?_) (fun c294 => ?_)
     ·
      replace c294 := bnot_t c294
      replace c294 := dF c294
      refine Sq fun K295 hK295 => ?_
      have hne : ¬ r100 = name := by first | assumption | simp_all
      have hc1 : putC p.names name = 1 := putC_not (by rw [← ha_, ← hia]; exact e101) hne
      have n2 : (putN p.names name)[k + 1]? = some r100 := by have h_ := putN_ge (nm := name) (i := i) (by omega) e101 hne; rw [hc1] at h_; rw [show k = i by omega]; exact h_
      refine WC.drawM 8 [(some 48, .is (.pointer (some ⟨W13.heap.size, 3, none⟩))), (some 49, .is (u238)), (some 50, .is (.pointer (some ⟨w.heap.size, 3, none⟩))), (some 51, .is (p.nv)), (some 52, .is (.int .i64 (i : Int))), (some 53, .by fun u W => PtR (B277 :: W254.heap.size :: B244 :: W36.heap.size :: Bn :: Bi :: W13.heap.size :: W7.heap.size :: W2.heap.size :: w.heap.size :: L) W u [.string r100]), (some 54, .is (.string r100)), (some 55, .by fun u W => RdF 1 (B277 :: W254.heap.size :: B244 :: W36.heap.size :: Bn :: Bi :: W13.heap.size :: W7.heap.size :: W2.heap.size :: w.heap.size :: L) W u [[.string r100]])] [[], [0], [], [2], [], [3, 4], [5], [6]] (by kernel_rfl) (by kernel_rfl) (by kernel_rfl) (by kernel_rfl) (by kernel_rfl) (by kernel_rfl) (by kernel_rfl) ⟨fun _ _ _ hb h => h.below hb, fun _ _ _ hb h => h.below hb, trivial⟩ ?_ ?_
      ·
       refine Dc (fun Wd hd => ?_) ?_
       ·
        exact Dd (dx_fld (o1 := 3) rfl ty_fld_26_3_3 rfl rfl) rfl
       refine Dc (fun Wd hd => ?_) ?_
       ·
        have k290 := k290.below hd
        exact Dd (dx_load rfl ty_one_23 rfl (k290.cell (k := 3) rfl)) rfl
       refine Dc (fun Wd hd => ?_) ?_
       ·
        exact Dd (dx_fld (o1 := 3) rfl ty_fld_26_3_3 rfl rfl) rfl
       refine Dc (fun Wd hd => ?_) ?_
       ·
        have k3 := k3.below hd
        exact Dd (dx_load rfl ty_one_23 rfl (k3.cell (k := 3) rfl)) rfl
       refine Dc (fun Wd hd => ?_) ?_
       ·
        exact Dd (dx_move rfl rfl) rfl
       refine Dc (fun Wd hd => ?_) ?_
       ·
        have hnp := hnp.below hd
        exact (dx_idxF i rfl ty_slice_23 rfl rfl hnp (by omega) (at_mapX e101)).mono (fun v W' h => ⟨by rw [← h.1]; exact Below.refl _ _, by rw [← h.1]; exact h.2⟩)
       refine Dc (fun Wd hd => ?_) ?_
       ·
        intro u11_5 p11_5
        exact Dd (dx_loadP rfl ty_one_9 rfl p11_5) rfl
       refine Dc (fun Wd hd => ?_) ?_
       ·
        exact (dx_lit1 (r := [.string r100]) rfl ty_ap_23 (by decide) (by decide) rfl rfl rfl).mono (fun v W' h => ⟨h.2.1, h.1.notin (LL.below hL hd) (Nat.le_refl _)⟩)
       exact trivial
      ·
       intro W296 b297
       intro u11_5 p11_5
       intro u11_7 p11_7
       replace hnp := hnp.below b297
       replace hip := hip.below b297
       replace hcp := hcp.below b297
       replace hnq := hnq.below b297
       replace hiq := hiq.below b297
       replace hcq := hcq.below b297
       replace hag := hag.below b297
       replace hts := hts.below b297
       replace k3 := k3.below b297
       replace k8 := k8.below b297
       replace k14 := k14.below b297
       replace k290 := k290.below b297
       replace k240 := k240.below b297
       replace k273 := k273.below b297
       replace hB := below_then hB b297
       replace hL := LL.below hL b297
       refine Ge (dx_apO' (rs := ((((putN p.names name).take k) ++ [name]).map eS)) (news := [eS r100]) rfl ty_ap_23 rfl rfl k240 (RdF.less (L' := []) p11_7 (fun x hx => by cases hx)) (fun r hr => by rw [List.mem_singleton.1 hr]; exact (oc_cons rfl oc_nil)) (by simp only [List.length_map, List.length_append, List.length_cons, List.length_nil]; unfold maxLen; omega) (by simp only [List.length_map, List.length_append, List.length_cons, List.length_nil]; omega)) rfl rfl ?_
       rintro u298 W299 ⟨B304, k300, g303⟩
       rw [show ((((putN p.names name).take k) ++ [name]).map eS) ++ [eS r100] = (((((putN p.names name).take k) ++ [name]) ++ [r100]).map eS) from by simp only [List.map_append, List.map_cons, List.map_nil]] at k300
       have q306 := hag.2.1
       have l307 : b0 ≤ B304 := g303.le l247 (by omega)
       have n311 : W13.heap.size ≠ B304 := k290.grow_ne g303 n251
       have n314 : B277 ≠ B304 := k273.grow_ne g303 n286.symm
       have l305 := g303.le l245 hB.size
       replace hnp := hnp.grow' g303 (.tail _ (.tail _ (.head _)))
       replace hip := hip.grow' g303 (.tail _ (.tail _ (.head _)))
       replace hcp := hcp.grow' g303 (.tail _ (.tail _ (.head _)))
       replace hnq := hnq.grow' g303 (.tail _ (.tail _ (.head _)))
       replace hiq := hiq.grow' g303 (.tail _ (.tail _ (.head _)))
       replace hcq := hcq.grow' g303 (.tail _ (.tail _ (.head _)))
       replace hag := hag.grow' g303 (.tail _ (.tail _ (.head _)))
       replace hts := hts.grow' g303 (.tail _ (.tail _ (.head _)))
       replace k3 := k3.grow g303 n248
       replace k8 := k8.grow g303 n249
       replace k14 := k14.grow g303 n250
       replace k290 := k290.grow g303 n251
       replace k273 := k273.grow g303 n286.symm
       replace hB := g303.below hB l245 hB.size
       replace hL := LL.grow hL g303 k300.lt
       refine Va (dx_fld (o1 := 3) rfl ty_fld_26_3_3 rfl rfl) rfl rfl ?_
       refine WL.do (dx_store (cs' := [.int .i64 6, .int .i64 0, .string ⟨#[]⟩, u298, u271]) (vs := [u298]) rfl ty_size_23_1 rfl rfl (oc_one k300.one) (oc_cons k300.one oc_nil) k290 rfl (Nat.le_of_ble_eq_true rfl) rfl) rfl ?_
       rintro _ W315 ⟨k317, o316⟩
       replace k3 := k3.other o316 n25
       replace k8 := k8.other o316 n26
       replace k14 := k14.other o316 n27
       replace k273 := k273.other o316 n284.symm
       replace k300 := k300.other o316 n311.symm
       clear k290
       replace hnp := hnp.only o316 (.tail _ (.tail _ (.tail _ (.tail _ (.tail _ (.tail _ (.tail _ (.head _))))))))
       replace hip := hip.only o316 (.tail _ (.tail _ (.tail _ (.tail _ (.tail _ (.tail _ (.tail _ (.head _))))))))
       replace hcp := hcp.only o316 (.tail _ (.tail _ (.tail _ (.tail _ (.tail _ (.tail _ (.tail _ (.head _))))))))
       replace hnq := hnq.only o316 (.tail _ (.tail _ (.tail _ (.tail _ (.tail _ (.tail _ (.tail _ (.head _))))))))
       replace hiq := hiq.only o316 (.tail _ (.tail _ (.tail _ (.tail _ (.tail _ (.tail _ (.tail _ (.head _))))))))
       replace hcq := hcq.only o316 (.tail _ (.tail _ (.tail _ (.tail _ (.tail _ (.tail _ (.tail _ (.head _))))))))
       replace hag := hag.only o316 (.tail _ (.tail _ (.tail _ (.tail _ (.tail _ (.tail _ (.tail _ (.head _))))))))
       replace hts := hts.only o316 (.tail _ (.tail _ (.tail _ (.tail _ (.tail _ (.tail _ (.tail _ (.head _))))))))
       replace hB := o316.below hB l28
       replace hL := LL.only hL o316
       refine Ni (hK295 ?_)
       obtain ⟨t318, ht319⟩ : ∃ x, p.items[i]? = some x := ⟨_, List.getElem?_eq_getElem (by omega)⟩
       have hot318 := (hcp t318 (List.mem_of_getElem? ht319))
       obtain ⟨hnt318, hit318, hct318⟩ : RdF 1 (B304 :: B277 :: W254.heap.size :: B244 :: W36.heap.size :: Bn :: Bi :: W13.heap.size :: W7.heap.size :: W2.heap.size :: w.heap.size :: L) W315 t318.nv (t318.names.map eS) ∧ RdF 5 (B304 :: B277 :: W254.heap.size :: B244 :: W36.heap.size :: Bn :: Bi :: W13.heap.size :: W7.heap.size :: W2.heap.size :: w.heap.size :: L) W315 t318.iv (t318.items.map encT) ∧ ∀ c ∈ t318.items, RdT n (B304 :: B277 :: W254.heap.size :: B244 :: W36.heap.size :: Bn :: Bi :: W13.heap.size :: W7.heap.size :: W2.heap.size :: w.heap.size :: L) W315 c := by cases n with | zero => exact hot318.elim | succ n => exact ⟨hot318.1, hot318.2.1, fun c hc => (hot318.2.2 c hc).up⟩
       have t2 : (putT p.names name p.items q)[k + 1]? = some t318 := by have h_ := putT_ge (x := q) hlen (i := i) (by omega) e101 hne ht319; rw [hc1] at h_; rw [show k = i by omega]; exact h_
       refine WC.drawM 8 [(some 58, .is (.pointer (some ⟨W13.heap.size, 4, none⟩))), (some 59, .is (u271)), (some 60, .is (.pointer (some ⟨w.heap.size, 4, none⟩))), (some 61, .is (p.iv)), (some 62, .is (.int .i64 (i : Int))), (some 63, .by fun u W => PtR (B304 :: B277 :: W254.heap.size :: B244 :: W36.heap.size :: Bn :: Bi :: W13.heap.size :: W7.heap.size :: W2.heap.size :: w.heap.size :: L) W u (encT t318)), (some 64, .is (.agg #[.int .i64 t318.kind, .int .i64 t318.num, .string t318.text, t318.nv, t318.iv])), (some 65, .by fun u W => RdF 5 (B304 :: B277 :: W254.heap.size :: B244 :: W36.heap.size :: Bn :: Bi :: W13.heap.size :: W7.heap.size :: W2.heap.size :: w.heap.size :: L) W u [[.int .i64 t318.kind, .int .i64 t318.num, .string t318.text, t318.nv, t318.iv]])] [[], [0], [], [2], [], [3, 4], [5], [6]] (by kernel_rfl) (by kernel_rfl) (by kernel_rfl) (by kernel_rfl) (by kernel_rfl) (by kernel_rfl) (by kernel_rfl) ⟨fun _ _ _ hb h => h.below hb, fun _ _ _ hb h => h.below hb, trivial⟩ ?_ ?_
       ·
        refine Dc (fun Wd hd => ?_) ?_
        ·
         exact Dd (dx_fld (o1 := 4) rfl ty_fld_26_4_4 rfl rfl) rfl
        refine Dc (fun Wd hd => ?_) ?_
        ·
         have k317 := k317.below hd
         exact Dd (dx_load rfl ty_one_24 rfl (k317.cell (k := 4) rfl)) rfl
        refine Dc (fun Wd hd => ?_) ?_
        ·
         exact Dd (dx_fld (o1 := 4) rfl ty_fld_26_4_4 rfl rfl) rfl
        refine Dc (fun Wd hd => ?_) ?_
        ·
         have k3 := k3.below hd
         exact Dd (dx_load rfl ty_one_24 rfl (k3.cell (k := 4) rfl)) rfl
        refine Dc (fun Wd hd => ?_) ?_
        ·
         exact Dd (dx_move rfl rfl) rfl
        refine Dc (fun Wd hd => ?_) ?_
        ·
         have hip := hip.below hd
         exact (dx_idxF i rfl ty_slice_24 rfl rfl hip (by omega) (at_mapX ht319)).mono (fun v W' h => ⟨by rw [← h.1]; exact Below.refl _ _, by rw [← h.1]; exact h.2⟩)
        refine Dc (fun Wd hd => ?_) ?_
        ·
         intro u12_5 p12_5
         exact Dd (dx_loadPN rfl ty_agg_26_5 rfl p12_5 rfl) rfl
        refine Dc (fun Wd hd => ?_) ?_
        ·
         exact (dx_lit1 (r := [.int .i64 t318.kind, .int .i64 t318.num, .string t318.text, t318.nv, t318.iv]) rfl ty_ap_24 (by decide) (by decide) rfl rfl rfl).mono (fun v W' h => ⟨h.2.1, h.1.notin (LL.below hL hd) (Nat.le_refl _)⟩)
        exact trivial
       ·
        intro W320 b321
        intro u12_5 p12_5
        intro u12_7 p12_7
        replace hnp := hnp.below b321
        replace hip := hip.below b321
        replace hcp := hcp.below b321
        replace hnq := hnq.below b321
        replace hiq := hiq.below b321
        replace hcq := hcq.below b321
        replace hag := hag.below b321
        replace hts := hts.below b321
        replace k3 := k3.below b321
        replace k8 := k8.below b321
        replace k14 := k14.below b321
        replace k317 := k317.below b321
        replace k273 := k273.below b321
        replace k300 := k300.below b321
        replace hB := below_then hB b321
        replace hL := LL.below hL b321
        refine Ge (dx_apO' (rs := ((((putT p.names name p.items q).take k) ++ [q]).map encT)) (news := [encT t318]) rfl ty_ap_24 rfl rfl k273 (RdF.less (L' := []) p12_7 (fun x hx => by cases hx)) (fun r hr => by rw [List.mem_singleton.1 hr]; exact (hcp t318 (List.mem_of_getElem? ht319)).oc) (by simp only [List.length_map, List.length_append, List.length_cons, List.length_nil]; unfold maxLen; omega) (by simp only [List.length_map, List.length_append, List.length_cons, List.length_nil]; omega)) rfl rfl ?_
        rintro u322 W323 ⟨B328, k324, g327⟩
        rw [show ((((putT p.names name p.items q).take k) ++ [q]).map encT) ++ [encT t318] = (((((putT p.names name p.items q).take k) ++ [q]) ++ [t318]).map encT) from by simp only [List.map_append, List.map_cons, List.map_nil]] at k324
        have q330 := hag.2.1
        have l331 : b0 ≤ B328 := g327.le l280 (by omega)
        have n335 : W13.heap.size ≠ B328 := k317.grow_ne g327 n284
        have n338 : B304 ≠ B328 := k300.grow_ne g327 n314.symm
        have l329 := g327.le l278 hB.size
        replace hnp := hnp.grow' g327 (.tail _ (.head _))
        replace hip := hip.grow' g327 (.tail _ (.head _))
        replace hcp := hcp.grow' g327 (.tail _ (.head _))
        replace hnq := hnq.grow' g327 (.tail _ (.head _))
        replace hiq := hiq.grow' g327 (.tail _ (.head _))
        replace hcq := hcq.grow' g327 (.tail _ (.head _))
        replace hag := hag.grow' g327 (.tail _ (.head _))
        replace hts := hts.grow' g327 (.tail _ (.head _))
        replace k3 := k3.grow g327 n281
        replace k8 := k8.grow g327 n282
        replace k14 := k14.grow g327 n283
        replace k317 := k317.grow g327 n284
        replace k300 := k300.grow g327 n314.symm
        replace hB := g327.below hB l278 hB.size
        replace hL := LL.grow hL g327 k324.lt
        refine Va (dx_fld (o1 := 4) rfl ty_fld_26_4_4 rfl rfl) rfl rfl ?_
        refine WL.do (dx_store (cs' := [.int .i64 6, .int .i64 0, .string ⟨#[]⟩, u298, u322]) (vs := [u322]) rfl ty_size_24_1 rfl rfl (oc_one k324.one) (oc_cons k324.one oc_nil) k317 rfl (Nat.le_of_ble_eq_true rfl) rfl) rfl ?_
        rintro _ W339 ⟨k341, o340⟩
        replace k3 := k3.other o340 n25
        replace k8 := k8.other o340 n26
        replace k14 := k14.other o340 n27
        replace k300 := k300.other o340 n311.symm
        replace k324 := k324.other o340 n335.symm
        clear k317
        replace hnp := hnp.only o340 (.tail _ (.tail _ (.tail _ (.tail _ (.tail _ (.tail _ (.tail _ (.tail _ (.head _)))))))))
        replace hip := hip.only o340 (.tail _ (.tail _ (.tail _ (.tail _ (.tail _ (.tail _ (.tail _ (.tail _ (.head _)))))))))
        replace hcp := hcp.only o340 (.tail _ (.tail _ (.tail _ (.tail _ (.tail _ (.tail _ (.tail _ (.tail _ (.head _)))))))))
        replace hnq := hnq.only o340 (.tail _ (.tail _ (.tail _ (.tail _ (.tail _ (.tail _ (.tail _ (.tail _ (.head _)))))))))
        replace hiq := hiq.only o340 (.tail _ (.tail _ (.tail _ (.tail _ (.tail _ (.tail _ (.tail _ (.tail _ (.head _)))))))))
        replace hcq := hcq.only o340 (.tail _ (.tail _ (.tail _ (.tail _ (.tail _ (.tail _ (.tail _ (.tail _ (.head _)))))))))
        replace hag := hag.only o340 (.tail _ (.tail _ (.tail _ (.tail _ (.tail _ (.tail _ (.tail _ (.tail _ (.head _)))))))))
        replace hts := hts.only o340 (.tail _ (.tail _ (.tail _ (.tail _ (.tail _ (.tail _ (.tail _ (.tail _ (.head _)))))))))
        replace hB := o340.below hB l28
        replace hL := LL.only hL o340
        refine Ni (hK40 (Rg (Pu rfl (Va (dx_add (r := (i : Int) + 1) rfl rfl rfl (wrap64_id (by omega))) rfl rfl (Pu rfl (Ni ?_))))))
        have eputN : ((((putN p.names name).take k) ++ [name]) ++ [r100]) = (putN p.names name).take (k + 2) := by rw [take_add n1]; rw [take_add n2]; (try rfl)
        have eputT : ((((putT p.names name p.items q).take k) ++ [q]) ++ [t318]) = (putT p.names name p.items q).take (k + 2) := by rw [take_add t1]; rw [take_add t2]; (try rfl)
        have hts2 : RdTs (n + 1) (B304 :: B328 :: W13.heap.size :: W7.heap.size :: W2.heap.size :: w.heap.size :: L) W339 ((((putT p.names name p.items q).take k) ++ [q]) ++ [t318]) := fun c hc_ => by
         simp only [List.mem_append, List.mem_singleton, or_assoc] at hc_
         rcases hc_ with h_ | h_ | h_
         · exact (hts c h_).less (fun x hx => by simp only [List.mem_cons] at hx ⊢; rcases hx with h_ | h_ | h_ <;> simp [h_])
         · (rw [h_]; exact (show RdT (n + 1) (B328 :: B304 :: B277 :: W254.heap.size :: B244 :: W36.heap.size :: Bn :: Bi :: W13.heap.size :: W7.heap.size :: W2.heap.size :: w.heap.size :: L) W339 q from ⟨hnq, hiq, hcq⟩).less (fun x hx => by simp only [List.mem_cons] at hx ⊢; rcases hx with h_ | h_ | h_ <;> simp [h_]))
         · (rw [h_]; exact (hcp t318 (List.mem_of_getElem? ht319)).up.less (fun x hx => by simp only [List.mem_cons] at hx ⊢; rcases hx with h_ | h_ | h_ <;> simp [h_]))
        have hm2 : MembI (n + 1) b0 (W13.heap.size :: W7.heap.size :: W2.heap.size :: w.heap.size :: L) u298 ((putN p.names name).take (k + 2)) u322 ((putT p.names name p.items q).take (k + 2)) W339 := ⟨hb0L, .inr ⟨B304, B328, n338, by omega, by omega, (by rw [← eputN]; exact k300), (by rw [← eputT]; exact k324), (by rw [← eputT]; exact hts2)⟩⟩
        have hL_ := hL.less (fun x hx => (.tail _ (.tail _ (.tail _ (.tail _ (.tail _ (.tail _ (.tail _ (.tail _ hx)))))))))
        replace hag : AgL W29 (W13.heap.size :: W7.heap.size :: W2.heap.size :: w.heap.size :: L) (W13.heap.size :: W7.heap.size :: W2.heap.size :: w.heap.size :: L) W339 := ⟨fun _ h _ => h, hag.2⟩
        replace hnp := hnp6.agree hag.2
        replace hip := hip6.agree hag.2
        replace hnq := hnq6.agree hag.2
        replace hiq := hiq6.agree hag.2
        replace hcp : RdTs n (W13.heap.size :: W7.heap.size :: W2.heap.size :: w.heap.size :: L) W339 p.items := fun c hc_ => (hcp6 c hc_).agree hag.2
        replace hcq : RdTs n (W13.heap.size :: W7.heap.size :: W2.heap.size :: w.heap.size :: L) W339 q.items := fun c hc_ => (hcq6 c hc_).agree hag.2
        replace hL := hL_
        exact hK35 (i + 1) (k + 2) u298 u322 ⟨(by omega), (by omega), (fun h_ => by omega), (fun h_ => by omega), hB, hL, hnp, hip, hcp, hnq, hiq, hcq, hag, hm2, k3, k8, k14, k341⟩ (by omega) (by repeat first | exact trivial | exact And.intro rfl trivial | refine And.intro rfl ?_ | refine And.intro (congrArg (fun z : Int => some (Value.int .i64 z)) (by omega)) ?_ | refine And.intro (congrArg (fun z : Bool => some (Value.bool z)) (by first | exact (decide_eq_true (by omega)).symm | exact (decide_eq_false (by omega)).symm)) ?_)
     ·
      replace c294 := bnot_f c294
      replace c294 := dT c294
      have hc0 := (putC_found (nm := name) hris (by rw [← (show r100 = name by first | assumption | exact Classical.not_not.1 (by assumption) | simp_all)]; exact e101)).1
      refine WC.skip (hK40 (Rg (Pu rfl (Va (dx_add (r := (i : Int) + 1) rfl rfl rfl (wrap64_id (by omega))) rfl rfl (Pu rfl (Ni ?_))))))
      have eputN : (((putN p.names name).take k) ++ [name]) = (putN p.names name).take (k + 1) := by rw [take_add n1]; (try rfl)
      have eputT : (((putT p.names name p.items q).take k) ++ [q]) = (putT p.names name p.items q).take (k + 1) := by rw [take_add t1]; (try rfl)
      have hts2 : RdTs (n + 1) (B244 :: B277 :: W13.heap.size :: W7.heap.size :: W2.heap.size :: w.heap.size :: L) W288 (((putT p.names name p.items q).take k) ++ [q]) := fun c hc_ => by
       simp only [List.mem_append, List.mem_singleton, or_assoc] at hc_
       rcases hc_ with h_ | h_
       · exact (hts c h_).less (fun x hx => by simp only [List.mem_cons] at hx ⊢; rcases hx with h_ | h_ | h_ <;> simp [h_])
       · (rw [h_]; exact (show RdT (n + 1) (B277 :: W254.heap.size :: B244 :: W36.heap.size :: Bn :: Bi :: W13.heap.size :: W7.heap.size :: W2.heap.size :: w.heap.size :: L) W288 q from ⟨hnq, hiq, hcq⟩).less (fun x hx => by simp only [List.mem_cons] at hx ⊢; rcases hx with h_ | h_ | h_ <;> simp [h_]))
      have hm2 : MembI (n + 1) b0 (W13.heap.size :: W7.heap.size :: W2.heap.size :: w.heap.size :: L) u238 ((putN p.names name).take (k + 1)) u271 ((putT p.names name p.items q).take (k + 1)) W288 := ⟨hb0L, .inr ⟨B244, B277, n286, by omega, by omega, (by rw [← eputN]; exact k240), (by rw [← eputT]; exact k273), (by rw [← eputT]; exact hts2)⟩⟩
      have hL_ := hL.less (fun x hx => (.tail _ (.tail _ (.tail _ (.tail _ (.tail _ (.tail _ hx)))))))
      replace hag : AgL W29 (W13.heap.size :: W7.heap.size :: W2.heap.size :: w.heap.size :: L) (W13.heap.size :: W7.heap.size :: W2.heap.size :: w.heap.size :: L) W288 := ⟨fun _ h _ => h, hag.2⟩
      replace hnp := hnp6.agree hag.2
      replace hip := hip6.agree hag.2
      replace hnq := hnq6.agree hag.2
      replace hiq := hiq6.agree hag.2
      replace hcp : RdTs n (W13.heap.size :: W7.heap.size :: W2.heap.size :: w.heap.size :: L) W288 p.items := fun c hc_ => (hcp6 c hc_).agree hag.2
      replace hcq : RdTs n (W13.heap.size :: W7.heap.size :: W2.heap.size :: w.heap.size :: L) W288 q.items := fun c hc_ => (hcq6 c hc_).agree hag.2
      replace hL := hL_
      exact hK35 (i + 1) (k + 1) u238 u271 ⟨(by omega), (by omega), (fun h_ => by omega), (fun h_ => by omega), hB, hL, hnp, hip, hcp, hnq, hiq, hcq, hag, hm2, k3, k8, k14, k290⟩ (by omega) (by repeat first | exact trivial | exact And.intro rfl trivial | refine And.intro rfl ?_ | refine And.intro (congrArg (fun z : Int => some (Value.int .i64 z)) (by omega)) ?_ | refine And.intro (congrArg (fun z : Bool => some (Value.bool z)) (by first | exact (decide_eq_true (by omega)).symm | exact (decide_eq_false (by omega)).symm)) ?_)
   ·
    replace c104 := bnot_f c104
    have hsl : sless r100 name = true := by first | assumption | simp_all
    refine WC.skip (hK41 (Sq fun K342 hK342 => (Rg (Va (dx_fld (o1 := 3) rfl ty_fld_26_3_3 rfl rfl) rfl rfl (Va (dx_load rfl ty_one_23 rfl (k3.cell (k := 3) rfl)) rfl rfl (Pu rfl ?_))))))
    refine Ge (dx_idxF i rfl ty_slice_23 rfl rfl hnp (by omega) (at_mapX e101)) rfl rfl ?_
    rintro u343 _ ⟨rfl, p344⟩
    refine Va (dx_loadP rfl ty_one_9 rfl p344) rfl rfl (Pu rfl (Va (dx_neqT rfl rfl rfl) rfl rfl (Ni (hK342 ?_))))
    refine WC.cond rfl (fun c345 => ?_) (fun c345 => ?_)
    ·
     replace c345 := bnot_t c345
     replace c345 := dF c345
     refine Sq fun K346 hK346 => ?_
     have hne : ¬ r100 = name := by first | assumption | simp_all
     obtain ⟨-, hm⟩ := hm
     have hlN : ((putN p.names name).take k).length ≤ p.names.length + 1 ∧ ((putT p.names name p.items q).take k).length ≤ p.names.length + 1 := ⟨by rw [List.length_take]; omega, by rw [List.length_take]; omega⟩
     rcases hm with ⟨rfl, rfl, hns0, hts0⟩ | ⟨Bn, Bi, hni, hbn, hbi, hOn, hOi, hts⟩
     ·
      have hilt := lb_not e101 hris hsl
      have n2 : (putN p.names name)[k]? = some r100 := by rw [hkk, putN_lt hilt]; exact e101
      refine WC.drawM 8 [(some 48, .is (.pointer (some ⟨W13.heap.size, 3, none⟩))), (some 49, .is (.slice none 0 0)), (some 50, .is (.pointer (some ⟨w.heap.size, 3, none⟩))), (some 51, .is (p.nv)), (some 52, .is (.int .i64 (i : Int))), (some 53, .by fun u W => PtR (W13.heap.size :: W7.heap.size :: W2.heap.size :: w.heap.size :: L) W u [.string r100]), (some 54, .is (.string r100)), (some 55, .by fun u W => RdF 1 (W13.heap.size :: W7.heap.size :: W2.heap.size :: w.heap.size :: L) W u [[.string r100]])] [[], [0], [], [2], [], [3, 4], [5], [6]] (by kernel_rfl) (by kernel_rfl) (by kernel_rfl) (by kernel_rfl) (by kernel_rfl) (by kernel_rfl) (by kernel_rfl) ⟨fun _ _ _ hb h => h.below hb, fun _ _ _ hb h => h.below hb, trivial⟩ ?_ ?_
      ·
       refine Dc (fun Wd hd => ?_) ?_
       ·
        exact Dd (dx_fld (o1 := 3) rfl ty_fld_26_3_3 rfl rfl) rfl
       refine Dc (fun Wd hd => ?_) ?_
       ·
        have k31 := k31.below hd
        exact Dd (dx_load rfl ty_one_23 rfl (k31.cell (k := 3) rfl)) rfl
       refine Dc (fun Wd hd => ?_) ?_
       ·
        exact Dd (dx_fld (o1 := 3) rfl ty_fld_26_3_3 rfl rfl) rfl
       refine Dc (fun Wd hd => ?_) ?_
       ·
        have k3 := k3.below hd
        exact Dd (dx_load rfl ty_one_23 rfl (k3.cell (k := 3) rfl)) rfl
       refine Dc (fun Wd hd => ?_) ?_
       ·
        exact Dd (dx_move rfl rfl) rfl
       refine Dc (fun Wd hd => ?_) ?_
       ·
        have hnp := hnp.below hd
        exact (dx_idxF i rfl ty_slice_23 rfl rfl hnp (by omega) (at_mapX e101)).mono (fun v W' h => ⟨by rw [← h.1]; exact Below.refl _ _, by rw [← h.1]; exact h.2⟩)
       refine Dc (fun Wd hd => ?_) ?_
       ·
        intro u11_5 p11_5
        exact Dd (dx_loadP rfl ty_one_9 rfl p11_5) rfl
       refine Dc (fun Wd hd => ?_) ?_
       ·
        exact (dx_lit1 (r := [.string r100]) rfl ty_ap_23 (by decide) (by decide) rfl rfl rfl).mono (fun v W' h => ⟨h.2.1, h.1.notin (LL.below hL hd) (Nat.le_refl _)⟩)
       exact trivial
      ·
       intro W347 b348
       intro u11_5 p11_5
       intro u11_7 p11_7
       replace hnp := hnp.below b348
       replace hip := hip.below b348
       replace hcp := hcp.below b348
       replace hnq := hnq.below b348
       replace hiq := hiq.below b348
       replace hcq := hcq.below b348
       replace hag := hag.below b348
       replace k3 := k3.below b348
       replace k8 := k8.below b348
       replace k14 := k14.below b348
       replace k31 := k31.below b348
       replace hB := below_then hB b348
       replace hL := LL.below hL b348
       refine Ge (dx_apF (rs := []) (news := [eS r100]) rfl ty_ap_23 rfl rfl (RdF.nil (L := []) (by decide)) (RdF.less (L' := []) p11_7 (fun x hx => by cases hx)) (by simp) (by simp [maxLen]) (by simp)) rfl rfl ?_
       rintro u349 W350 ⟨k351, b352, z353⟩
       have q356 := hag.2.1
       have l357 : b0 ≤ W347.heap.size := by omega
       have n361 : W13.heap.size ≠ W347.heap.size := Nat.ne_of_lt k31.lt
       have l362 := hB.size
       replace hnp := hnp.more b352 (Nat.le_refl _)
       replace hip := hip.more b352 (Nat.le_refl _)
       replace hcp := hcp.more b352 (Nat.le_refl _)
       replace hnq := hnq.more b352 (Nat.le_refl _)
       replace hiq := hiq.more b352 (Nat.le_refl _)
       replace hcq := hcq.more b352 (Nat.le_refl _)
       replace hag := hag.more b352 (Nat.le_refl _)
       replace k3 := k3.below b352
       replace k8 := k8.below b352
       replace k14 := k14.below b352
       replace k31 := k31.below b352
       replace hB := below_then hB b352
       replace hL := LL.more hL z353
       refine Va (dx_fld (o1 := 3) rfl ty_fld_26_3_3 rfl rfl) rfl rfl ?_
       refine WL.do (dx_store (cs' := [.int .i64 6, .int .i64 0, .string ⟨#[]⟩, u349, .slice none 0 0]) (vs := [u349]) rfl ty_size_23_1 rfl rfl (oc_one k351.one) (oc_cons k351.one oc_nil) k31 rfl (Nat.le_of_ble_eq_true rfl) rfl) rfl ?_
       rintro _ W363 ⟨k365, o364⟩
       replace k3 := k3.other o364 n25
       replace k8 := k8.other o364 n26
       replace k14 := k14.other o364 n27
       replace k351 := k351.other o364 n361.symm
       clear k31
       replace hnp := hnp.only o364 (.tail _ (.head _))
       replace hip := hip.only o364 (.tail _ (.head _))
       replace hcp := hcp.only o364 (.tail _ (.head _))
       replace hnq := hnq.only o364 (.tail _ (.head _))
       replace hiq := hiq.only o364 (.tail _ (.head _))
       replace hcq := hcq.only o364 (.tail _ (.head _))
       replace hag := hag.only o364 (.tail _ (.head _))
       replace hB := o364.below hB l28
       replace hL := LL.only hL o364
       refine Ni (hK346 ?_)
       obtain ⟨t366, ht367⟩ : ∃ x, p.items[i]? = some x := ⟨_, List.getElem?_eq_getElem (by omega)⟩
       have hot366 := (hcp t366 (List.mem_of_getElem? ht367))
       obtain ⟨hnt366, hit366, hct366⟩ : RdF 1 (W347.heap.size :: W13.heap.size :: W7.heap.size :: W2.heap.size :: w.heap.size :: L) W363 t366.nv (t366.names.map eS) ∧ RdF 5 (W347.heap.size :: W13.heap.size :: W7.heap.size :: W2.heap.size :: w.heap.size :: L) W363 t366.iv (t366.items.map encT) ∧ ∀ c ∈ t366.items, RdT n (W347.heap.size :: W13.heap.size :: W7.heap.size :: W2.heap.size :: w.heap.size :: L) W363 c := by cases n with | zero => exact hot366.elim | succ n => exact ⟨hot366.1, hot366.2.1, fun c hc => (hot366.2.2 c hc).up⟩
       have t2 : (putT p.names name p.items q)[k]? = some t366 := by rw [hkk, putT_lt hlen hilt]; exact ht367
       refine WC.drawM 8 [(some 58, .is (.pointer (some ⟨W13.heap.size, 4, none⟩))), (some 59, .is (.slice none 0 0)), (some 60, .is (.pointer (some ⟨w.heap.size, 4, none⟩))), (some 61, .is (p.iv)), (some 62, .is (.int .i64 (i : Int))), (some 63, .by fun u W => PtR (W347.heap.size :: W13.heap.size :: W7.heap.size :: W2.heap.size :: w.heap.size :: L) W u (encT t366)), (some 64, .is (.agg #[.int .i64 t366.kind, .int .i64 t366.num, .string t366.text, t366.nv, t366.iv])), (some 65, .by fun u W => RdF 5 (W347.heap.size :: W13.heap.size :: W7.heap.size :: W2.heap.size :: w.heap.size :: L) W u [[.int .i64 t366.kind, .int .i64 t366.num, .string t366.text, t366.nv, t366.iv]])] [[], [0], [], [2], [], [3, 4], [5], [6]] (by kernel_rfl) (by kernel_rfl) (by kernel_rfl) (by kernel_rfl) (by kernel_rfl) (by kernel_rfl) (by kernel_rfl) ⟨fun _ _ _ hb h => h.below hb, fun _ _ _ hb h => h.below hb, trivial⟩ ?_ ?_
       ·
        refine Dc (fun Wd hd => ?_) ?_
        ·
         exact Dd (dx_fld (o1 := 4) rfl ty_fld_26_4_4 rfl rfl) rfl
        refine Dc (fun Wd hd => ?_) ?_
        ·
         have k365 := k365.below hd
         exact Dd (dx_load rfl ty_one_24 rfl (k365.cell (k := 4) rfl)) rfl
        refine Dc (fun Wd hd => ?_) ?_
        ·
         exact Dd (dx_fld (o1 := 4) rfl ty_fld_26_4_4 rfl rfl) rfl
        refine Dc (fun Wd hd => ?_) ?_
        ·
         have k3 := k3.below hd
         exact Dd (dx_load rfl ty_one_24 rfl (k3.cell (k := 4) rfl)) rfl
        refine Dc (fun Wd hd => ?_) ?_
        ·
         exact Dd (dx_move rfl rfl) rfl
        refine Dc (fun Wd hd => ?_) ?_
        ·
         have hip := hip.below hd
         exact (dx_idxF i rfl ty_slice_24 rfl rfl hip (by omega) (at_mapX ht367)).mono (fun v W' h => ⟨by rw [← h.1]; exact Below.refl _ _, by rw [← h.1]; exact h.2⟩)
        refine Dc (fun Wd hd => ?_) ?_
        ·
         intro u12_5 p12_5
         exact Dd (dx_loadPN rfl ty_agg_26_5 rfl p12_5 rfl) rfl
        refine Dc (fun Wd hd => ?_) ?_
        ·
         exact (dx_lit1 (r := [.int .i64 t366.kind, .int .i64 t366.num, .string t366.text, t366.nv, t366.iv]) rfl ty_ap_24 (by decide) (by decide) rfl rfl rfl).mono (fun v W' h => ⟨h.2.1, h.1.notin (LL.below hL hd) (Nat.le_refl _)⟩)
        exact trivial
       ·
        intro W368 b369
        intro u12_5 p12_5
        intro u12_7 p12_7
        replace hnp := hnp.below b369
        replace hip := hip.below b369
        replace hcp := hcp.below b369
        replace hnq := hnq.below b369
        replace hiq := hiq.below b369
        replace hcq := hcq.below b369
        replace hag := hag.below b369
        replace k3 := k3.below b369
        replace k8 := k8.below b369
        replace k14 := k14.below b369
        replace k365 := k365.below b369
        replace k351 := k351.below b369
        replace hB := below_then hB b369
        replace hL := LL.below hL b369
        refine Ge (dx_apF (rs := []) (news := [encT t366]) rfl ty_ap_24 rfl rfl (RdF.nil (L := []) (by decide)) (RdF.less (L' := []) p12_7 (fun x hx => by cases hx)) (by simp) (by simp [maxLen]) (by simp)) rfl rfl ?_
        rintro u370 W371 ⟨k372, b373, z374⟩
        have q377 := hag.2.1
        have l378 : b0 ≤ W368.heap.size := by omega
        have n382 : W13.heap.size ≠ W368.heap.size := Nat.ne_of_lt k365.lt
        have n383 : W347.heap.size ≠ W368.heap.size := Nat.ne_of_lt k351.lt
        have l384 := hB.size
        replace hnp := hnp.more b373 (Nat.le_refl _)
        replace hip := hip.more b373 (Nat.le_refl _)
        replace hcp := hcp.more b373 (Nat.le_refl _)
        replace hnq := hnq.more b373 (Nat.le_refl _)
        replace hiq := hiq.more b373 (Nat.le_refl _)
        replace hcq := hcq.more b373 (Nat.le_refl _)
        replace hag := hag.more b373 (Nat.le_refl _)
        replace k3 := k3.below b373
        replace k8 := k8.below b373
        replace k14 := k14.below b373
        replace k365 := k365.below b373
        replace k351 := k351.below b373
        replace hB := below_then hB b373
        replace hL := LL.more hL z374
        refine Va (dx_fld (o1 := 4) rfl ty_fld_26_4_4 rfl rfl) rfl rfl ?_
        refine WL.do (dx_store (cs' := [.int .i64 6, .int .i64 0, .string ⟨#[]⟩, u349, u370]) (vs := [u370]) rfl ty_size_24_1 rfl rfl (oc_one k372.one) (oc_cons k372.one oc_nil) k365 rfl (Nat.le_of_ble_eq_true rfl) rfl) rfl ?_
        rintro _ W385 ⟨k387, o386⟩
        replace k3 := k3.other o386 n25
        replace k8 := k8.other o386 n26
        replace k14 := k14.other o386 n27
        replace k351 := k351.other o386 n361.symm
        replace k372 := k372.other o386 n382.symm
        clear k365
        replace hnp := hnp.only o386 (.tail _ (.tail _ (.head _)))
        replace hip := hip.only o386 (.tail _ (.tail _ (.head _)))
        replace hcp := hcp.only o386 (.tail _ (.tail _ (.head _)))
        replace hnq := hnq.only o386 (.tail _ (.tail _ (.head _)))
        replace hiq := hiq.only o386 (.tail _ (.tail _ (.head _)))
        replace hcq := hcq.only o386 (.tail _ (.tail _ (.head _)))
        replace hag := hag.only o386 (.tail _ (.tail _ (.head _)))
        replace hB := o386.below hB l28
        replace hL := LL.only hL o386
        refine Ni (hK40 (Rg (Pu rfl (Va (dx_add (r := (i : Int) + 1) rfl rfl rfl (wrap64_id (by omega))) rfl rfl (Pu rfl (Ni ?_))))))
        have eputN : [r100] = (putN p.names name).take (k + 1) := by rw [show [r100] = (putN p.names name).take k ++ [r100] from by rw [hns0]; rfl]; rw [take_add n2]; (try rfl)
        have eputT : [t366] = (putT p.names name p.items q).take (k + 1) := by rw [show [t366] = (putT p.names name p.items q).take k ++ [t366] from by rw [hts0]; rfl]; rw [take_add t2]; (try rfl)
        have hts2 : RdTs (n + 1) (W347.heap.size :: W368.heap.size :: W13.heap.size :: W7.heap.size :: W2.heap.size :: w.heap.size :: L) W385 [t366] := fun c hc_ => by
         simp only [List.mem_append, List.mem_singleton, or_assoc] at hc_
         have h_ := hc_
         (rw [h_]; exact (hcp t366 (List.mem_of_getElem? ht367)).up.less (fun x hx => by simp only [List.mem_cons] at hx ⊢; rcases hx with h_ | h_ | h_ <;> simp [h_]))
        have hm2 : MembI (n + 1) b0 (W13.heap.size :: W7.heap.size :: W2.heap.size :: w.heap.size :: L) u349 ((putN p.names name).take (k + 1)) u370 ((putT p.names name p.items q).take (k + 1)) W385 := ⟨hb0L, .inr ⟨W347.heap.size, W368.heap.size, n383, by omega, by omega, (by rw [← eputN]; exact k351), (by rw [← eputT]; exact k372), (by rw [← eputT]; exact hts2)⟩⟩
        have hL_ := hL.less (fun x hx => (.tail _ (.tail _ hx)))
        replace hag : AgL W29 (W13.heap.size :: W7.heap.size :: W2.heap.size :: w.heap.size :: L) (W13.heap.size :: W7.heap.size :: W2.heap.size :: w.heap.size :: L) W385 := ⟨fun _ h _ => h, hag.2⟩
        replace hnp := hnp6.agree hag.2
        replace hip := hip6.agree hag.2
        replace hnq := hnq6.agree hag.2
        replace hiq := hiq6.agree hag.2
        replace hcp : RdTs n (W13.heap.size :: W7.heap.size :: W2.heap.size :: w.heap.size :: L) W385 p.items := fun c hc_ => (hcp6 c hc_).agree hag.2
        replace hcq : RdTs n (W13.heap.size :: W7.heap.size :: W2.heap.size :: w.heap.size :: L) W385 q.items := fun c hc_ => (hcq6 c hc_).agree hag.2
        replace hL := hL_
        exact hK35 (i + 1) (k + 1) u349 u370 ⟨(by omega), (by omega), (fun h_ => by omega), (fun h_ => by omega), hB, hL, hnp, hip, hcp, hnq, hiq, hcq, hag, hm2, k3, k8, k14, k387⟩ (by omega) (by repeat first | exact trivial | exact And.intro rfl trivial | refine And.intro rfl ?_ | refine And.intro (congrArg (fun z : Int => some (Value.int .i64 z)) (by omega)) ?_ | refine And.intro (congrArg (fun z : Bool => some (Value.bool z)) (by first | exact (decide_eq_true (by omega)).symm | exact (decide_eq_false (by omega)).symm)) ?_)
     ·
      have n388 : Bn ≠ w.heap.size := by have := hb0L (w.heap.size) (.tail _ (.tail _ (.tail _ (.head _)))); omega
      have n389 : Bi ≠ w.heap.size := by have := hb0L (w.heap.size) (.tail _ (.tail _ (.tail _ (.head _)))); omega
      have n390 : Bn ≠ W2.heap.size := by have := hb0L (W2.heap.size) (.tail _ (.tail _ (.head _))); omega
      have n391 : Bi ≠ W2.heap.size := by have := hb0L (W2.heap.size) (.tail _ (.tail _ (.head _))); omega
      have n392 : Bn ≠ W7.heap.size := by have := hb0L (W7.heap.size) (.tail _ (.head _)); omega
      have n393 : Bi ≠ W7.heap.size := by have := hb0L (W7.heap.size) (.tail _ (.head _)); omega
      have n394 : Bn ≠ W13.heap.size := by have := hb0L (W13.heap.size) (.head _); omega
      have n395 : Bi ≠ W13.heap.size := by have := hb0L (W13.heap.size) (.head _); omega
      have lbn : w.heap.size ≤ Bn := by omega
      have lbi : w.heap.size ≤ Bi := by omega
      replace hag := (hag.add (B := Bi) (by omega)).add (B := Bn) (by omega)
      replace hL := LL.cons (LL.cons hL hOi.lt) hOn.lt
      replace hnp := hag.rd hnp6
      replace hip := hag.rd hip6
      replace hnq := hag.rd hnq6
      replace hiq := hag.rd hiq6
      replace hcp : RdTs n (Bn :: Bi :: W13.heap.size :: W7.heap.size :: W2.heap.size :: w.heap.size :: L) W36 p.items := fun c hc_ => hag.rt (hcp6 c hc_)
      replace hcq : RdTs n (Bn :: Bi :: W13.heap.size :: W7.heap.size :: W2.heap.size :: w.heap.size :: L) W36 q.items := fun c hc_ => hag.rt (hcq6 c hc_)
      have hilt := lb_not e101 hris hsl
      have n2 : (putN p.names name)[k]? = some r100 := by rw [hkk, putN_lt hilt]; exact e101
      refine WC.drawM 8 [(some 48, .is (.pointer (some ⟨W13.heap.size, 3, none⟩))), (some 49, .is (nv)), (some 50, .is (.pointer (some ⟨w.heap.size, 3, none⟩))), (some 51, .is (p.nv)), (some 52, .is (.int .i64 (i : Int))), (some 53, .by fun u W => PtR (Bn :: Bi :: W13.heap.size :: W7.heap.size :: W2.heap.size :: w.heap.size :: L) W u [.string r100]), (some 54, .is (.string r100)), (some 55, .by fun u W => RdF 1 (Bn :: Bi :: W13.heap.size :: W7.heap.size :: W2.heap.size :: w.heap.size :: L) W u [[.string r100]])] [[], [0], [], [2], [], [3, 4], [5], [6]] (by kernel_rfl) (by kernel_rfl) (by kernel_rfl) (by kernel_rfl) (by kernel_rfl) (by kernel_rfl) (by kernel_rfl) ⟨fun _ _ _ hb h => h.below hb, fun _ _ _ hb h => h.below hb, trivial⟩ ?_ ?_
      ·
       refine Dc (fun Wd hd => ?_) ?_
       ·
        exact Dd (dx_fld (o1 := 3) rfl ty_fld_26_3_3 rfl rfl) rfl
       refine Dc (fun Wd hd => ?_) ?_
       ·
        have k31 := k31.below hd
        exact Dd (dx_load rfl ty_one_23 rfl (k31.cell (k := 3) rfl)) rfl
       refine Dc (fun Wd hd => ?_) ?_
       ·
        exact Dd (dx_fld (o1 := 3) rfl ty_fld_26_3_3 rfl rfl) rfl
       refine Dc (fun Wd hd => ?_) ?_
       ·
        have k3 := k3.below hd
        exact Dd (dx_load rfl ty_one_23 rfl (k3.cell (k := 3) rfl)) rfl
       refine Dc (fun Wd hd => ?_) ?_
       ·
        exact Dd (dx_move rfl rfl) rfl
       refine Dc (fun Wd hd => ?_) ?_
       ·
        have hnp := hnp.below hd
        exact (dx_idxF i rfl ty_slice_23 rfl rfl hnp (by omega) (at_mapX e101)).mono (fun v W' h => ⟨by rw [← h.1]; exact Below.refl _ _, by rw [← h.1]; exact h.2⟩)
       refine Dc (fun Wd hd => ?_) ?_
       ·
        intro u11_5 p11_5
        exact Dd (dx_loadP rfl ty_one_9 rfl p11_5) rfl
       refine Dc (fun Wd hd => ?_) ?_
       ·
        exact (dx_lit1 (r := [.string r100]) rfl ty_ap_23 (by decide) (by decide) rfl rfl rfl).mono (fun v W' h => ⟨h.2.1, h.1.notin (LL.below hL hd) (Nat.le_refl _)⟩)
       exact trivial
      ·
       intro W396 b397
       intro u11_5 p11_5
       intro u11_7 p11_7
       replace hnp := hnp.below b397
       replace hip := hip.below b397
       replace hcp := hcp.below b397
       replace hnq := hnq.below b397
       replace hiq := hiq.below b397
       replace hcq := hcq.below b397
       replace hag := hag.below b397
       replace hts := hts.below b397
       replace k3 := k3.below b397
       replace k8 := k8.below b397
       replace k14 := k14.below b397
       replace k31 := k31.below b397
       replace hOn := hOn.below b397
       replace hOi := hOi.below b397
       replace hB := below_then hB b397
       replace hL := LL.below hL b397
       refine Ge (dx_apO' (rs := (((putN p.names name).take k).map eS)) (news := [eS r100]) rfl ty_ap_23 rfl rfl hOn (RdF.less (L' := []) p11_7 (fun x hx => by cases hx)) (fun r hr => by rw [List.mem_singleton.1 hr]; exact (oc_cons rfl oc_nil)) (by simp only [List.length_map, List.length_append, List.length_cons, List.length_nil]; unfold maxLen; omega) (by simp only [List.length_map, List.length_append, List.length_cons, List.length_nil]; omega)) rfl rfl ?_
       rintro u398 W399 ⟨B404, k400, g403⟩
       rw [show (((putN p.names name).take k).map eS) ++ [eS r100] = ((((putN p.names name).take k) ++ [r100]).map eS) from by simp only [List.map_append, List.map_cons, List.map_nil]] at k400
       have q406 := hag.2.1
       have l407 : b0 ≤ B404 := g403.le hbn (by omega)
       have n411 : W13.heap.size ≠ B404 := k31.grow_ne g403 n394.symm
       have n412 : Bi ≠ B404 := hOi.grow_ne g403 hni.symm
       have l405 := g403.le lbn hB.size
       replace hnp := hnp.grow' g403 (.head _)
       replace hip := hip.grow' g403 (.head _)
       replace hcp := hcp.grow' g403 (.head _)
       replace hnq := hnq.grow' g403 (.head _)
       replace hiq := hiq.grow' g403 (.head _)
       replace hcq := hcq.grow' g403 (.head _)
       replace hag := hag.grow' g403 (.head _)
       replace hts := hts.grow' g403 (.head _)
       replace k3 := k3.grow g403 n388.symm
       replace k8 := k8.grow g403 n390.symm
       replace k14 := k14.grow g403 n392.symm
       replace k31 := k31.grow g403 n394.symm
       replace hOi := hOi.grow g403 hni.symm
       replace hB := g403.below hB lbn hB.size
       replace hL := LL.grow hL g403 k400.lt
       refine Va (dx_fld (o1 := 3) rfl ty_fld_26_3_3 rfl rfl) rfl rfl ?_
       refine WL.do (dx_store (cs' := [.int .i64 6, .int .i64 0, .string ⟨#[]⟩, u398, iv]) (vs := [u398]) rfl ty_size_23_1 rfl rfl (oc_one k400.one) (oc_cons k400.one oc_nil) k31 rfl (Nat.le_of_ble_eq_true rfl) rfl) rfl ?_
       rintro _ W413 ⟨k415, o414⟩
       replace k3 := k3.other o414 n25
       replace k8 := k8.other o414 n26
       replace k14 := k14.other o414 n27
       replace hOi := hOi.other o414 n395
       replace k400 := k400.other o414 n411.symm
       clear k31
       replace hnp := hnp.only o414 (.tail _ (.tail _ (.tail _ (.head _))))
       replace hip := hip.only o414 (.tail _ (.tail _ (.tail _ (.head _))))
       replace hcp := hcp.only o414 (.tail _ (.tail _ (.tail _ (.head _))))
       replace hnq := hnq.only o414 (.tail _ (.tail _ (.tail _ (.head _))))
       replace hiq := hiq.only o414 (.tail _ (.tail _ (.tail _ (.head _))))
       replace hcq := hcq.only o414 (.tail _ (.tail _ (.tail _ (.head _))))
       replace hag := hag.only o414 (.tail _ (.tail _ (.tail _ (.head _))))
       replace hts := hts.only o414 (.tail _ (.tail _ (.tail _ (.head _))))
       replace hB := o414.below hB l28
       replace hL := LL.only hL o414
       refine Ni (hK346 ?_)
       obtain ⟨t416, ht417⟩ : ∃ x, p.items[i]? = some x := ⟨_, List.getElem?_eq_getElem (by omega)⟩
       have hot416 := (hcp t416 (List.mem_of_getElem? ht417))
       obtain ⟨hnt416, hit416, hct416⟩ : RdF 1 (B404 :: Bn :: Bi :: W13.heap.size :: W7.heap.size :: W2.heap.size :: w.heap.size :: L) W413 t416.nv (t416.names.map eS) ∧ RdF 5 (B404 :: Bn :: Bi :: W13.heap.size :: W7.heap.size :: W2.heap.size :: w.heap.size :: L) W413 t416.iv (t416.items.map encT) ∧ ∀ c ∈ t416.items, RdT n (B404 :: Bn :: Bi :: W13.heap.size :: W7.heap.size :: W2.heap.size :: w.heap.size :: L) W413 c := by cases n with | zero => exact hot416.elim | succ n => exact ⟨hot416.1, hot416.2.1, fun c hc => (hot416.2.2 c hc).up⟩
       have t2 : (putT p.names name p.items q)[k]? = some t416 := by rw [hkk, putT_lt hlen hilt]; exact ht417
       refine WC.drawM 8 [(some 58, .is (.pointer (some ⟨W13.heap.size, 4, none⟩))), (some 59, .is (iv)), (some 60, .is (.pointer (some ⟨w.heap.size, 4, none⟩))), (some 61, .is (p.iv)), (some 62, .is (.int .i64 (i : Int))), (some 63, .by fun u W => PtR (B404 :: Bn :: Bi :: W13.heap.size :: W7.heap.size :: W2.heap.size :: w.heap.size :: L) W u (encT t416)), (some 64, .is (.agg #[.int .i64 t416.kind, .int .i64 t416.num, .string t416.text, t416.nv, t416.iv])), (some 65, .by fun u W => RdF 5 (B404 :: Bn :: Bi :: W13.heap.size :: W7.heap.size :: W2.heap.size :: w.heap.size :: L) W u [[.int .i64 t416.kind, .int .i64 t416.num, .string t416.text, t416.nv, t416.iv]])] [[], [0], [], [2], [], [3, 4], [5], [6]] (by kernel_rfl) (by kernel_rfl) (by kernel_rfl) (by kernel_rfl) (by kernel_rfl) (by kernel_rfl) (by kernel_rfl) ⟨fun _ _ _ hb h => h.below hb, fun _ _ _ hb h => h.below hb, trivial⟩ ?_ ?_
       ·
        refine Dc (fun Wd hd => ?_) ?_
        ·
         exact Dd (dx_fld (o1 := 4) rfl ty_fld_26_4_4 rfl rfl) rfl
        refine Dc (fun Wd hd => ?_) ?_
        ·
         have k415 := k415.below hd
         exact Dd (dx_load rfl ty_one_24 rfl (k415.cell (k := 4) rfl)) rfl
        refine Dc (fun Wd hd => ?_) ?_
        ·
         exact Dd (dx_fld (o1 := 4) rfl ty_fld_26_4_4 rfl rfl) rfl
        refine Dc (fun Wd hd => ?_) ?_
        ·
         have k3 := k3.below hd
         exact Dd (dx_load rfl ty_one_24 rfl (k3.cell (k := 4) rfl)) rfl
        refine Dc (fun Wd hd => ?_) ?_
        ·
         exact Dd (dx_move rfl rfl) rfl
        refine Dc (fun Wd hd => ?_) ?_
        ·
         have hip := hip.below hd
         exact (dx_idxF i rfl ty_slice_24 rfl rfl hip (by omega) (at_mapX ht417)).mono (fun v W' h => ⟨by rw [← h.1]; exact Below.refl _ _, by rw [← h.1]; exact h.2⟩)
        refine Dc (fun Wd hd => ?_) ?_
        ·
         intro u12_5 p12_5
         exact Dd (dx_loadPN rfl ty_agg_26_5 rfl p12_5 rfl) rfl
        refine Dc (fun Wd hd => ?_) ?_
        ·
         exact (dx_lit1 (r := [.int .i64 t416.kind, .int .i64 t416.num, .string t416.text, t416.nv, t416.iv]) rfl ty_ap_24 (by decide) (by decide) rfl rfl rfl).mono (fun v W' h => ⟨h.2.1, h.1.notin (LL.below hL hd) (Nat.le_refl _)⟩)
        exact trivial
       ·
        intro W418 b419
        intro u12_5 p12_5
        intro u12_7 p12_7
        replace hnp := hnp.below b419
        replace hip := hip.below b419
        replace hcp := hcp.below b419
        replace hnq := hnq.below b419
        replace hiq := hiq.below b419
        replace hcq := hcq.below b419
        replace hag := hag.below b419
        replace hts := hts.below b419
        replace k3 := k3.below b419
        replace k8 := k8.below b419
        replace k14 := k14.below b419
        replace k415 := k415.below b419
        replace hOi := hOi.below b419
        replace k400 := k400.below b419
        replace hB := below_then hB b419
        replace hL := LL.below hL b419
        refine Ge (dx_apO' (rs := (((putT p.names name p.items q).take k).map encT)) (news := [encT t416]) rfl ty_ap_24 rfl rfl hOi (RdF.less (L' := []) p12_7 (fun x hx => by cases hx)) (fun r hr => by rw [List.mem_singleton.1 hr]; exact (hcp t416 (List.mem_of_getElem? ht417)).oc) (by simp only [List.length_map, List.length_append, List.length_cons, List.length_nil]; unfold maxLen; omega) (by simp only [List.length_map, List.length_append, List.length_cons, List.length_nil]; omega)) rfl rfl ?_
        rintro u420 W421 ⟨B426, k422, g425⟩
        rw [show (((putT p.names name p.items q).take k).map encT) ++ [encT t416] = ((((putT p.names name p.items q).take k) ++ [t416]).map encT) from by simp only [List.map_append, List.map_cons, List.map_nil]] at k422
        have q428 := hag.2.1
        have l429 : b0 ≤ B426 := g425.le hbi (by omega)
        have n433 : W13.heap.size ≠ B426 := k415.grow_ne g425 n395.symm
        have n434 : B404 ≠ B426 := k400.grow_ne g425 n412.symm
        have l427 := g425.le lbi hB.size
        replace hnp := hnp.grow' g425 (.tail _ (.tail _ (.head _)))
        replace hip := hip.grow' g425 (.tail _ (.tail _ (.head _)))
        replace hcp := hcp.grow' g425 (.tail _ (.tail _ (.head _)))
        replace hnq := hnq.grow' g425 (.tail _ (.tail _ (.head _)))
        replace hiq := hiq.grow' g425 (.tail _ (.tail _ (.head _)))
        replace hcq := hcq.grow' g425 (.tail _ (.tail _ (.head _)))
        replace hag := hag.grow' g425 (.tail _ (.tail _ (.head _)))
        replace hts := hts.grow' g425 (.tail _ (.tail _ (.head _)))
        replace k3 := k3.grow g425 n389.symm
        replace k8 := k8.grow g425 n391.symm
        replace k14 := k14.grow g425 n393.symm
        replace k415 := k415.grow g425 n395.symm
        replace k400 := k400.grow g425 n412.symm
        replace hB := g425.below hB lbi hB.size
        replace hL := LL.grow hL g425 k422.lt
        refine Va (dx_fld (o1 := 4) rfl ty_fld_26_4_4 rfl rfl) rfl rfl ?_
        refine WL.do (dx_store (cs' := [.int .i64 6, .int .i64 0, .string ⟨#[]⟩, u398, u420]) (vs := [u420]) rfl ty_size_24_1 rfl rfl (oc_one k422.one) (oc_cons k422.one oc_nil) k415 rfl (Nat.le_of_ble_eq_true rfl) rfl) rfl ?_
        rintro _ W435 ⟨k437, o436⟩
        replace k3 := k3.other o436 n25
        replace k8 := k8.other o436 n26
        replace k14 := k14.other o436 n27
        replace k400 := k400.other o436 n411.symm
        replace k422 := k422.other o436 n433.symm
        clear k415
        replace hnp := hnp.only o436 (.tail _ (.tail _ (.tail _ (.tail _ (.head _)))))
        replace hip := hip.only o436 (.tail _ (.tail _ (.tail _ (.tail _ (.head _)))))
        replace hcp := hcp.only o436 (.tail _ (.tail _ (.tail _ (.tail _ (.head _)))))
        replace hnq := hnq.only o436 (.tail _ (.tail _ (.tail _ (.tail _ (.head _)))))
        replace hiq := hiq.only o436 (.tail _ (.tail _ (.tail _ (.tail _ (.head _)))))
        replace hcq := hcq.only o436 (.tail _ (.tail _ (.tail _ (.tail _ (.head _)))))
        replace hag := hag.only o436 (.tail _ (.tail _ (.tail _ (.tail _ (.head _)))))
        replace hts := hts.only o436 (.tail _ (.tail _ (.tail _ (.tail _ (.head _)))))
        replace hB := o436.below hB l28
        replace hL := LL.only hL o436
        refine Ni (hK40 (Rg (Pu rfl (Va (dx_add (r := (i : Int) + 1) rfl rfl rfl (wrap64_id (by omega))) rfl rfl (Pu rfl (Ni ?_))))))
        have eputN : (((putN p.names name).take k) ++ [r100]) = (putN p.names name).take (k + 1) := by rw [take_add n2]; (try rfl)
        have eputT : (((putT p.names name p.items q).take k) ++ [t416]) = (putT p.names name p.items q).take (k + 1) := by rw [take_add t2]; (try rfl)
        have hts2 : RdTs (n + 1) (B404 :: B426 :: W13.heap.size :: W7.heap.size :: W2.heap.size :: w.heap.size :: L) W435 (((putT p.names name p.items q).take k) ++ [t416]) := fun c hc_ => by
         simp only [List.mem_append, List.mem_singleton, or_assoc] at hc_
         rcases hc_ with h_ | h_
         · exact (hts c h_).less (fun x hx => by simp only [List.mem_cons] at hx ⊢; rcases hx with h_ | h_ | h_ <;> simp [h_])
         · (rw [h_]; exact (hcp t416 (List.mem_of_getElem? ht417)).up.less (fun x hx => by simp only [List.mem_cons] at hx ⊢; rcases hx with h_ | h_ | h_ <;> simp [h_]))
        have hm2 : MembI (n + 1) b0 (W13.heap.size :: W7.heap.size :: W2.heap.size :: w.heap.size :: L) u398 ((putN p.names name).take (k + 1)) u420 ((putT p.names name p.items q).take (k + 1)) W435 := ⟨hb0L, .inr ⟨B404, B426, n434, by omega, by omega, (by rw [← eputN]; exact k400), (by rw [← eputT]; exact k422), (by rw [← eputT]; exact hts2)⟩⟩
        have hL_ := hL.less (fun x hx => (.tail _ (.tail _ (.tail _ (.tail _ hx)))))
        replace hag : AgL W29 (W13.heap.size :: W7.heap.size :: W2.heap.size :: w.heap.size :: L) (W13.heap.size :: W7.heap.size :: W2.heap.size :: w.heap.size :: L) W435 := ⟨fun _ h _ => h, hag.2⟩
        replace hnp := hnp6.agree hag.2
        replace hip := hip6.agree hag.2
        replace hnq := hnq6.agree hag.2
        replace hiq := hiq6.agree hag.2
        replace hcp : RdTs n (W13.heap.size :: W7.heap.size :: W2.heap.size :: w.heap.size :: L) W435 p.items := fun c hc_ => (hcp6 c hc_).agree hag.2
        replace hcq : RdTs n (W13.heap.size :: W7.heap.size :: W2.heap.size :: w.heap.size :: L) W435 q.items := fun c hc_ => (hcq6 c hc_).agree hag.2
        replace hL := hL_
        exact hK35 (i + 1) (k + 1) u398 u420 ⟨(by omega), (by omega), (fun h_ => by omega), (fun h_ => by omega), hB, hL, hnp, hip, hcp, hnq, hiq, hcq, hag, hm2, k3, k8, k14, k437⟩ (by omega) (by repeat first | exact trivial | exact And.intro rfl trivial | refine And.intro rfl ?_ | refine And.intro (congrArg (fun z : Int => some (Value.int .i64 z)) (by omega)) ?_ | refine And.intro (congrArg (fun z : Bool => some (Value.bool z)) (by first | exact (decide_eq_true (by omega)).symm | exact (decide_eq_false (by omega)).symm)) ?_)
    ·
     replace c345 := bnot_f c345
     replace c345 := dT c345
     exfalso; have hc0 := (putC_found (nm := name) hris (by rw [← (show r100 = name by first | assumption | exact Classical.not_not.1 (by assumption) | simp_all)]; exact e101)).2; (rw [(show r100 = name by first | assumption | exact Classical.not_not.1 (by assumption) | simp_all), sless_irrefl] at hsl; cases hsl)
 ·
  replace c39 := dF c39
  refine WC.exit ?_
  refine hK33 (Sq fun K438 hK438 => (Sq fun K439 hK439 => ?_))
  have hie : i = p.names.length := by omega
  by_cases hda : a_ < i
  ·
   have hkk := hk1 hda
   rw [decide_eq_true hda]
   refine Rg (Pu rfl (Va (dx_not rfl rfl) rfl rfl (Ni (hK439 (WC.condF rfl (WC.skip (hK438 ?_)))))))
   refine Sq fun K440 hK440 => (Rg (Va (dx_loadN rfl ty_agg_26_5 rfl k31.range rfl) rfl rfl ?_))
   refine WL.do (dx_store (cs' := [.int .i64 6, .int .i64 0, .string ⟨#[]⟩, nv, iv]) (vs := [.int .i64 6, .int .i64 0, .string ⟨#[]⟩, nv, iv]) rfl ty_size_26_5 rfl rfl rfl (oc_cons rfl (oc_cons rfl (oc_cons rfl (oc_cons hm.one.1 (oc_cons hm.one.2 oc_nil))))) k14 rfl (Nat.le_of_ble_eq_true rfl) rfl) rfl ?_
   rintro _ W441 ⟨k443, o442⟩
   clear k14
   replace hm := hm.only o442 (.tail _ (.head _))
   replace hB := o442.below hB l19
   refine Ni (hK440 ?_)
   exact WC.ret fun a_ ha_ => hQ (cv_ret1 rfl (.agg rfl ty_agg_26_5 k443.range rfl) (by rw [List.take_of_length_le (show (putN p.names name).length ≤ k by omega), List.take_of_length_le (show (putT p.names name p.items q).length ≤ k by omega)] at hm; exact ⟨.mk 6 0 ⟨#[]⟩ nv (putN p.names name) iv (putT p.names name p.items q), rfl, (by rw [Tr.er_mk, putJ_eq, er_names, er_items, putT_map]), hm.tree (fun x hx => (.tail _ (.tail _ (.tail _ (.tail _ hx))))) 6 0 ⟨#[]⟩⟩) hB ha_)
  ·
   have hkk := hk2 (by omega)
   rw [decide_eq_false hda]
   refine Rg (Pu rfl (Va (dx_not rfl rfl) rfl rfl (Ni (hK439 (WC.condT rfl (Sq fun K444 hK444 => ?_))))))
   have n1 : (putN p.names name)[k]? = some name := by rw [show k = lbT name p.names by omega]; exact putN_a
   have t1 : (putT p.names name p.items q)[k]? = some q := by rw [show k = lbT name p.names by omega]; exact putT_a hlen
   obtain ⟨-, hm⟩ := hm
   have hlN : ((putN p.names name).take k).length ≤ p.names.length + 1 ∧ ((putT p.names name p.items q).take k).length ≤ p.names.length + 1 := ⟨by rw [List.length_take]; omega, by rw [List.length_take]; omega⟩
   rcases hm with ⟨rfl, rfl, hns0, hts0⟩ | ⟨Bn, Bi, hni, hbn, hbi, hOn, hOi, hts⟩
   ·
    refine Rg (Va (dx_fld (o1 := 3) rfl ty_fld_26_3_3 rfl rfl) rfl rfl (Va (dx_load rfl ty_one_23 rfl (k31.cell (k := 3) rfl)) rfl rfl (Pu rfl ?_)))
    refine Ge (dx_lit1 (r := [.string name]) rfl ty_ap_23 (by decide) (by decide) rfl rfl rfl) rfl rfl ?_
    rintro u449 W445 ⟨k446, b447, z448⟩
    have l454 := hB.size
    replace hnp := hnp.more b447 (Nat.le_refl _)
    replace hip := hip.more b447 (Nat.le_refl _)
    replace hcp := hcp.more b447 (Nat.le_refl _)
    replace hnq := hnq.more b447 (Nat.le_refl _)
    replace hiq := hiq.more b447 (Nat.le_refl _)
    replace hcq := hcq.more b447 (Nat.le_refl _)
    replace hag := hag.more b447 (Nat.le_refl _)
    replace k8 := k8.below b447
    replace k14 := k14.below b447
    replace k31 := k31.below b447
    replace hB := below_then hB b447
    replace hL := LL.more hL z448
    refine Ge (dx_apF (rs := []) (news := [eS name]) rfl ty_ap_23 rfl rfl (RdF.nil (L := []) (by decide)) (k446.rd (L := []) (by simp)) (by simp) (by simp [maxLen]) (by simp)) rfl rfl ?_
    rintro u455 W456 ⟨k457, b458, z459⟩
    have q462 := hag.2.1
    have l463 : b0 ≤ W445.heap.size := by omega
    have n467 : W13.heap.size ≠ W445.heap.size := Nat.ne_of_lt k31.lt
    have l469 := hB.size
    replace hnp := hnp.more b458 (Nat.le_refl _)
    replace hip := hip.more b458 (Nat.le_refl _)
    replace hcp := hcp.more b458 (Nat.le_refl _)
    replace hnq := hnq.more b458 (Nat.le_refl _)
    replace hiq := hiq.more b458 (Nat.le_refl _)
    replace hcq := hcq.more b458 (Nat.le_refl _)
    replace hag := hag.more b458 (Nat.le_refl _)
    replace k8 := k8.below b458
    replace k14 := k14.below b458
    replace k31 := k31.below b458
    replace hB := below_then hB b458
    replace hL := LL.more hL z459
    refine Va (dx_fld (o1 := 3) rfl ty_fld_26_3_3 rfl rfl) rfl rfl ?_
    refine WL.do (dx_store (cs' := [.int .i64 6, .int .i64 0, .string ⟨#[]⟩, u455, .slice none 0 0]) (vs := [u455]) rfl ty_size_23_1 rfl rfl (oc_one k457.one) (oc_cons k457.one oc_nil) k31 rfl (Nat.le_of_ble_eq_true rfl) rfl) rfl ?_
    rintro _ W470 ⟨k472, o471⟩
    replace k8 := k8.other o471 n26
    replace k14 := k14.other o471 n27
    replace k457 := k457.other o471 n467.symm
    clear k31
    replace hnp := hnp.only o471 (.tail _ (.tail _ (.head _)))
    replace hip := hip.only o471 (.tail _ (.tail _ (.head _)))
    replace hcp := hcp.only o471 (.tail _ (.tail _ (.head _)))
    replace hnq := hnq.only o471 (.tail _ (.tail _ (.head _)))
    replace hiq := hiq.only o471 (.tail _ (.tail _ (.head _)))
    replace hcq := hcq.only o471 (.tail _ (.tail _ (.head _)))
    replace hag := hag.only o471 (.tail _ (.tail _ (.head _)))
    replace hB := o471.below hB l28
    replace hL := LL.only hL o471
    refine Ni (hK444 (Rg (Va (dx_fld (o1 := 4) rfl ty_fld_26_4_4 rfl rfl) rfl rfl (Va (dx_load rfl ty_one_24 rfl (k472.cell (k := 4) rfl)) rfl rfl (Va (dx_loadN rfl ty_agg_26_5 rfl k8.range rfl) rfl rfl ?_)))))
    refine Ge (dx_lit1 (r := [.int .i64 q.kind, .int .i64 q.num, .string q.text, q.nv, q.iv]) rfl ty_ap_24 (by decide) (by decide) rfl rfl rfl) rfl rfl ?_
    rintro u477 W473 ⟨k474, b475, z476⟩
    have l484 := hB.size
    replace hnp := hnp.more b475 (Nat.le_refl _)
    replace hip := hip.more b475 (Nat.le_refl _)
    replace hcp := hcp.more b475 (Nat.le_refl _)
    replace hnq := hnq.more b475 (Nat.le_refl _)
    replace hiq := hiq.more b475 (Nat.le_refl _)
    replace hcq := hcq.more b475 (Nat.le_refl _)
    replace hag := hag.more b475 (Nat.le_refl _)
    replace k14 := k14.below b475
    replace k472 := k472.below b475
    replace k457 := k457.below b475
    replace hB := below_then hB b475
    replace hL := LL.more hL z476
    refine Ge (dx_apF (rs := []) (news := [encT q]) rfl ty_ap_24 rfl rfl (RdF.nil (L := []) (by decide)) (k474.rd (L := []) (by simp)) (by simp) (by simp [maxLen]) (by simp)) rfl rfl ?_
    rintro u485 W486 ⟨k487, b488, z489⟩
    have q492 := hag.2.1
    have l493 : b0 ≤ W473.heap.size := by omega
    have n497 : W13.heap.size ≠ W473.heap.size := Nat.ne_of_lt k472.lt
    have n499 : W445.heap.size ≠ W473.heap.size := Nat.ne_of_lt k457.lt
    have l501 := hB.size
    replace hnp := hnp.more b488 (Nat.le_refl _)
    replace hip := hip.more b488 (Nat.le_refl _)
    replace hcp := hcp.more b488 (Nat.le_refl _)
    replace hnq := hnq.more b488 (Nat.le_refl _)
    replace hiq := hiq.more b488 (Nat.le_refl _)
    replace hcq := hcq.more b488 (Nat.le_refl _)
    replace hag := hag.more b488 (Nat.le_refl _)
    replace k14 := k14.below b488
    replace k472 := k472.below b488
    replace k457 := k457.below b488
    replace hB := below_then hB b488
    replace hL := LL.more hL z489
    refine Va (dx_fld (o1 := 4) rfl ty_fld_26_4_4 rfl rfl) rfl rfl ?_
    refine WL.do (dx_store (cs' := [.int .i64 6, .int .i64 0, .string ⟨#[]⟩, u455, u485]) (vs := [u485]) rfl ty_size_24_1 rfl rfl (oc_one k487.one) (oc_cons k487.one oc_nil) k472 rfl (Nat.le_of_ble_eq_true rfl) rfl) rfl ?_
    rintro _ W502 ⟨k504, o503⟩
    replace k14 := k14.other o503 n27
    replace k457 := k457.other o503 n467.symm
    replace k487 := k487.other o503 n497.symm
    clear k472
    replace hnp := hnp.only o503 (.tail _ (.tail _ (.tail _ (.tail _ (.head _)))))
    replace hip := hip.only o503 (.tail _ (.tail _ (.tail _ (.tail _ (.head _)))))
    replace hcp := hcp.only o503 (.tail _ (.tail _ (.tail _ (.tail _ (.head _)))))
    replace hnq := hnq.only o503 (.tail _ (.tail _ (.tail _ (.tail _ (.head _)))))
    replace hiq := hiq.only o503 (.tail _ (.tail _ (.tail _ (.tail _ (.head _)))))
    replace hcq := hcq.only o503 (.tail _ (.tail _ (.tail _ (.tail _ (.head _)))))
    replace hag := hag.only o503 (.tail _ (.tail _ (.tail _ (.tail _ (.head _)))))
    replace hB := o503.below hB l28
    replace hL := LL.only hL o503
    refine Ni (hK438 (Sq fun K505 hK505 => ?_))
    have eputN : [name] = (putN p.names name).take (k + 1) := by rw [show [name] = (putN p.names name).take k ++ [name] from by rw [hns0]; rfl]; rw [take_add n1]
    have eputT : [q] = (putT p.names name p.items q).take (k + 1) := by rw [show [q] = (putT p.names name p.items q).take k ++ [q] from by rw [hts0]; rfl]; rw [take_add t1]
    have hts2 : RdTs (n + 1) (W445.heap.size :: W473.heap.size :: W13.heap.size :: W7.heap.size :: W2.heap.size :: w.heap.size :: L) W502 [q] := fun c hc_ => by
     simp only [List.mem_append, List.mem_singleton, or_assoc] at hc_
     have h_ := hc_
     (rw [h_]; exact (show RdT (n + 1) (W473.heap.size :: W470.heap.size :: W445.heap.size :: W36.heap.size :: W13.heap.size :: W7.heap.size :: W2.heap.size :: w.heap.size :: L) W502 q from ⟨hnq, hiq, hcq⟩).less (fun x hx => by simp only [List.mem_cons] at hx ⊢; rcases hx with h_ | h_ | h_ <;> simp [h_]))
    have hm2 : MembI (n + 1) b0 (W13.heap.size :: W7.heap.size :: W2.heap.size :: w.heap.size :: L) u455 ((putN p.names name).take (k + 1)) u485 ((putT p.names name p.items q).take (k + 1)) W502 := ⟨hb0L, .inr ⟨W445.heap.size, W473.heap.size, n499, by omega, by omega, (by rw [← eputN]; exact k457), (by rw [← eputT]; exact k487), (by rw [← eputT]; exact hts2)⟩⟩
    have hL_ := hL.less (fun x hx => (.tail _ (.tail _ (.tail _ (.tail _ hx)))))
    replace hag : AgL W29 (W13.heap.size :: W7.heap.size :: W2.heap.size :: w.heap.size :: L) (W13.heap.size :: W7.heap.size :: W2.heap.size :: w.heap.size :: L) W502 := ⟨fun _ h _ => h, hag.2⟩
    replace hnp := hnp6.agree hag.2
    replace hip := hip6.agree hag.2
    replace hnq := hnq6.agree hag.2
    replace hiq := hiq6.agree hag.2
    replace hcp : RdTs n (W13.heap.size :: W7.heap.size :: W2.heap.size :: w.heap.size :: L) W502 p.items := fun c hc_ => (hcp6 c hc_).agree hag.2
    replace hcq : RdTs n (W13.heap.size :: W7.heap.size :: W2.heap.size :: w.heap.size :: L) W502 q.items := fun c hc_ => (hcq6 c hc_).agree hag.2
    replace hL := hL_
    have hc1 : c_ = 1 := by rw [hc_]; unfold putC; rw [if_neg (fun h_ => by have := (List.getElem?_eq_some_iff.1 h_).1; omega)]
    refine Rg (Va (dx_loadN rfl ty_agg_26_5 rfl k504.range rfl) rfl rfl ?_)
    refine WL.do (dx_store (cs' := [.int .i64 6, .int .i64 0, .string ⟨#[]⟩, u455, u485]) (vs := [.int .i64 6, .int .i64 0, .string ⟨#[]⟩, u455, u485]) rfl ty_size_26_5 rfl rfl rfl (oc_cons rfl (oc_cons rfl (oc_cons rfl (oc_cons k457.one (oc_cons k487.one oc_nil))))) k14 rfl (Nat.le_of_ble_eq_true rfl) rfl) rfl ?_
    rintro _ W506 ⟨k508, o507⟩
    clear k14
    replace hm2 := hm2.only o507 (.tail _ (.head _))
    replace hB := o507.below hB l19
    refine Ni (hK505 ?_)
    exact WC.ret fun a_ ha_ => hQ (cv_ret1 rfl (.agg rfl ty_agg_26_5 k508.range rfl) (by rw [List.take_of_length_le (show (putN p.names name).length ≤ k + 1 by omega), List.take_of_length_le (show (putT p.names name p.items q).length ≤ k + 1 by omega)] at hm2; exact ⟨.mk 6 0 ⟨#[]⟩ u455 (putN p.names name) u485 (putT p.names name p.items q), rfl, (by rw [Tr.er_mk, putJ_eq, er_names, er_items, putT_map]), hm2.tree (fun x hx => (.tail _ (.tail _ (.tail _ (.tail _ hx))))) 6 0 ⟨#[]⟩⟩) hB ha_)
   ·
    have n511 : Bn ≠ W2.heap.size := by have := hb0L (W2.heap.size) (.tail _ (.tail _ (.head _))); omega
    have n513 : Bn ≠ W7.heap.size := by have := hb0L (W7.heap.size) (.tail _ (.head _)); omega
    have n514 : Bi ≠ W7.heap.size := by have := hb0L (W7.heap.size) (.tail _ (.head _)); omega
    have n515 : Bn ≠ W13.heap.size := by have := hb0L (W13.heap.size) (.head _); omega
    have n516 : Bi ≠ W13.heap.size := by have := hb0L (W13.heap.size) (.head _); omega
    have lbn : w.heap.size ≤ Bn := by omega
    have lbi : w.heap.size ≤ Bi := by omega
    replace hag := (hag.add (B := Bi) (by omega)).add (B := Bn) (by omega)
    replace hL := LL.cons (LL.cons hL hOi.lt) hOn.lt
    replace hnp := hag.rd hnp6
    replace hip := hag.rd hip6
    replace hnq := hag.rd hnq6
    replace hiq := hag.rd hiq6
    replace hcp : RdTs n (Bn :: Bi :: W13.heap.size :: W7.heap.size :: W2.heap.size :: w.heap.size :: L) W36 p.items := fun c hc_ => hag.rt (hcp6 c hc_)
    replace hcq : RdTs n (Bn :: Bi :: W13.heap.size :: W7.heap.size :: W2.heap.size :: w.heap.size :: L) W36 q.items := fun c hc_ => hag.rt (hcq6 c hc_)
    refine Rg (Va (dx_fld (o1 := 3) rfl ty_fld_26_3_3 rfl rfl) rfl rfl (Va (dx_load rfl ty_one_23 rfl (k31.cell (k := 3) rfl)) rfl rfl (Pu rfl ?_)))
    refine Ge (dx_lit1 (r := [.string name]) rfl ty_ap_23 (by decide) (by decide) rfl rfl rfl) rfl rfl ?_
    rintro u521 W517 ⟨k518, b519, z520⟩
    have l528 := hB.size
    replace hnp := hnp.more b519 (Nat.le_refl _)
    replace hip := hip.more b519 (Nat.le_refl _)
    replace hcp := hcp.more b519 (Nat.le_refl _)
    replace hnq := hnq.more b519 (Nat.le_refl _)
    replace hiq := hiq.more b519 (Nat.le_refl _)
    replace hcq := hcq.more b519 (Nat.le_refl _)
    replace hag := hag.more b519 (Nat.le_refl _)
    replace hts := hts.more b519 (Nat.le_refl _)
    replace k8 := k8.below b519
    replace k14 := k14.below b519
    replace k31 := k31.below b519
    replace hOn := hOn.below b519
    replace hOi := hOi.below b519
    replace hB := below_then hB b519
    replace hL := LL.more hL z520
    refine Ge (dx_apO' (rs := (((putN p.names name).take k).map eS)) (news := [eS name]) rfl ty_ap_23 rfl rfl hOn (k518.rd (L := []) (by simp)) (fun r hr => by rw [List.mem_singleton.1 hr]; exact (oc_cons rfl oc_nil)) (by simp only [List.length_map, List.length_append, List.length_cons, List.length_nil]; unfold maxLen; omega) (by simp only [List.length_map, List.length_append, List.length_cons, List.length_nil]; omega)) rfl rfl ?_
    rintro u529 W530 ⟨B535, k531, g534⟩
    rw [show (((putN p.names name).take k).map eS) ++ [eS name] = ((((putN p.names name).take k) ++ [name]).map eS) from by simp only [List.map_append, List.map_cons, List.map_nil]] at k531
    have q537 := hag.2.1
    have l538 : b0 ≤ B535 := g534.le hbn (by omega)
    have n542 : W13.heap.size ≠ B535 := k31.grow_ne g534 n515.symm
    have n543 : Bi ≠ B535 := hOi.grow_ne g534 hni.symm
    have l536 := g534.le lbn hB.size
    replace hnp := hnp.grow' g534 (.tail _ (.head _))
    replace hip := hip.grow' g534 (.tail _ (.head _))
    replace hcp := hcp.grow' g534 (.tail _ (.head _))
    replace hnq := hnq.grow' g534 (.tail _ (.head _))
    replace hiq := hiq.grow' g534 (.tail _ (.head _))
    replace hcq := hcq.grow' g534 (.tail _ (.head _))
    replace hag := hag.grow' g534 (.tail _ (.head _))
    replace hts := hts.grow' g534 (.tail _ (.head _))
    replace k8 := k8.grow g534 n511.symm
    replace k14 := k14.grow g534 n513.symm
    replace k31 := k31.grow g534 n515.symm
    replace hOi := hOi.grow g534 hni.symm
    replace hB := g534.below hB lbn hB.size
    replace hL := LL.grow hL g534 k531.lt
    refine Va (dx_fld (o1 := 3) rfl ty_fld_26_3_3 rfl rfl) rfl rfl ?_
    refine WL.do (dx_store (cs' := [.int .i64 6, .int .i64 0, .string ⟨#[]⟩, u529, iv]) (vs := [u529]) rfl ty_size_23_1 rfl rfl (oc_one k531.one) (oc_cons k531.one oc_nil) k31 rfl (Nat.le_of_ble_eq_true rfl) rfl) rfl ?_
    rintro _ W545 ⟨k547, o546⟩
    replace k8 := k8.other o546 n26
    replace k14 := k14.other o546 n27
    replace hOi := hOi.other o546 n516
    replace k531 := k531.other o546 n542.symm
    clear k31
    replace hnp := hnp.only o546 (.tail _ (.tail _ (.tail _ (.tail _ (.head _)))))
    replace hip := hip.only o546 (.tail _ (.tail _ (.tail _ (.tail _ (.head _)))))
    replace hcp := hcp.only o546 (.tail _ (.tail _ (.tail _ (.tail _ (.head _)))))
    replace hnq := hnq.only o546 (.tail _ (.tail _ (.tail _ (.tail _ (.head _)))))
    replace hiq := hiq.only o546 (.tail _ (.tail _ (.tail _ (.tail _ (.head _)))))
    replace hcq := hcq.only o546 (.tail _ (.tail _ (.tail _ (.tail _ (.head _)))))
    replace hag := hag.only o546 (.tail _ (.tail _ (.tail _ (.tail _ (.head _)))))
    replace hts := hts.only o546 (.tail _ (.tail _ (.tail _ (.tail _ (.head _)))))
    replace hB := o546.below hB l28
    replace hL := LL.only hL o546
    refine Ni (hK444 (Rg (Va (dx_fld (o1 := 4) rfl ty_fld_26_4_4 rfl rfl) rfl rfl (Va (dx_load rfl ty_one_24 rfl (k547.cell (k := 4) rfl)) rfl rfl (Va (dx_loadN rfl ty_agg_26_5 rfl k8.range rfl) rfl rfl ?_)))))
    refine Ge (dx_lit1 (r := [.int .i64 q.kind, .int .i64 q.num, .string q.text, q.nv, q.iv]) rfl ty_ap_24 (by decide) (by decide) rfl rfl rfl) rfl rfl ?_
    rintro u552 W548 ⟨k549, b550, z551⟩
    have l560 := hB.size
    replace hnp := hnp.more b550 (Nat.le_refl _)
    replace hip := hip.more b550 (Nat.le_refl _)
    replace hcp := hcp.more b550 (Nat.le_refl _)
    replace hnq := hnq.more b550 (Nat.le_refl _)
    replace hiq := hiq.more b550 (Nat.le_refl _)
    replace hcq := hcq.more b550 (Nat.le_refl _)
    replace hag := hag.more b550 (Nat.le_refl _)
    replace hts := hts.more b550 (Nat.le_refl _)
    replace k14 := k14.below b550
    replace k547 := k547.below b550
    replace hOi := hOi.below b550
    replace k531 := k531.below b550
    replace hB := below_then hB b550
    replace hL := LL.more hL z551
    refine Ge (dx_apO' (rs := (((putT p.names name p.items q).take k).map encT)) (news := [encT q]) rfl ty_ap_24 rfl rfl hOi (k549.rd (L := []) (by simp)) (fun r hr => by rw [List.mem_singleton.1 hr]; exact (show RdT (n + 1) (W545.heap.size :: B535 :: W36.heap.size :: Bn :: Bi :: W13.heap.size :: W7.heap.size :: W2.heap.size :: w.heap.size :: L) W548 q from ⟨hnq, hiq, hcq⟩).oc) (by simp only [List.length_map, List.length_append, List.length_cons, List.length_nil]; unfold maxLen; omega) (by simp only [List.length_map, List.length_append, List.length_cons, List.length_nil]; omega)) rfl rfl ?_
    rintro u561 W562 ⟨B567, k563, g566⟩
    rw [show (((putT p.names name p.items q).take k).map encT) ++ [encT q] = ((((putT p.names name p.items q).take k) ++ [q]).map encT) from by simp only [List.map_append, List.map_cons, List.map_nil]] at k563
    have q569 := hag.2.1
    have l570 : b0 ≤ B567 := g566.le hbi (by omega)
    have n574 : W13.heap.size ≠ B567 := k547.grow_ne g566 n516.symm
    have n576 : B535 ≠ B567 := k531.grow_ne g566 n543.symm
    have l568 := g566.le lbi hB.size
    replace hnp := hnp.grow' g566 (.tail _ (.tail _ (.tail _ (.tail _ (.head _)))))
    replace hip := hip.grow' g566 (.tail _ (.tail _ (.tail _ (.tail _ (.head _)))))
    replace hcp := hcp.grow' g566 (.tail _ (.tail _ (.tail _ (.tail _ (.head _)))))
    replace hnq := hnq.grow' g566 (.tail _ (.tail _ (.tail _ (.tail _ (.head _)))))
    replace hiq := hiq.grow' g566 (.tail _ (.tail _ (.tail _ (.tail _ (.head _)))))
    replace hcq := hcq.grow' g566 (.tail _ (.tail _ (.tail _ (.tail _ (.head _)))))
    replace hag := hag.grow' g566 (.tail _ (.tail _ (.tail _ (.tail _ (.head _)))))
    replace hts := hts.grow' g566 (.tail _ (.tail _ (.tail _ (.tail _ (.head _)))))
    replace k14 := k14.grow g566 n514.symm
    replace k547 := k547.grow g566 n516.symm
    replace k531 := k531.grow g566 n543.symm
    replace hB := g566.below hB lbi hB.size
    replace hL := LL.grow hL g566 k563.lt
    refine Va (dx_fld (o1 := 4) rfl ty_fld_26_4_4 rfl rfl) rfl rfl ?_
    refine WL.do (dx_store (cs' := [.int .i64 6, .int .i64 0, .string ⟨#[]⟩, u529, u561]) (vs := [u561]) rfl ty_size_24_1 rfl rfl (oc_one k563.one) (oc_cons k563.one oc_nil) k547 rfl (Nat.le_of_ble_eq_true rfl) rfl) rfl ?_
    rintro _ W578 ⟨k580, o579⟩
    replace k14 := k14.other o579 n27
    replace k531 := k531.other o579 n542.symm
    replace k563 := k563.other o579 n574.symm
    clear k547
    replace hnp := hnp.only o579 (.tail _ (.tail _ (.tail _ (.tail _ (.tail _ (.tail _ (.head _)))))))
    replace hip := hip.only o579 (.tail _ (.tail _ (.tail _ (.tail _ (.tail _ (.tail _ (.head _)))))))
    replace hcp := hcp.only o579 (.tail _ (.tail _ (.tail _ (.tail _ (.tail _ (.tail _ (.head _)))))))
    replace hnq := hnq.only o579 (.tail _ (.tail _ (.tail _ (.tail _ (.tail _ (.tail _ (.head _)))))))
    replace hiq := hiq.only o579 (.tail _ (.tail _ (.tail _ (.tail _ (.tail _ (.tail _ (.head _)))))))
    replace hcq := hcq.only o579 (.tail _ (.tail _ (.tail _ (.tail _ (.tail _ (.tail _ (.head _)))))))
    replace hag := hag.only o579 (.tail _ (.tail _ (.tail _ (.tail _ (.tail _ (.tail _ (.head _)))))))
    replace hts := hts.only o579 (.tail _ (.tail _ (.tail _ (.tail _ (.tail _ (.tail _ (.head _)))))))
    replace hB := o579.below hB l28
    replace hL := LL.only hL o579
    refine Ni (hK438 (Sq fun K581 hK581 => ?_))
    have eputN : (((putN p.names name).take k) ++ [name]) = (putN p.names name).take (k + 1) := by rw [take_add n1]
    have eputT : (((putT p.names name p.items q).take k) ++ [q]) = (putT p.names name p.items q).take (k + 1) := by rw [take_add t1]
    have hts2 : RdTs (n + 1) (B535 :: B567 :: W13.heap.size :: W7.heap.size :: W2.heap.size :: w.heap.size :: L) W578 (((putT p.names name p.items q).take k) ++ [q]) := fun c hc_ => by
     simp only [List.mem_append, List.mem_singleton, or_assoc] at hc_
     rcases hc_ with h_ | h_
     · exact (hts c h_).less (fun x hx => by simp only [List.mem_cons] at hx ⊢; rcases hx with h_ | h_ | h_ <;> simp [h_])
     · (rw [h_]; exact (show RdT (n + 1) (B567 :: W545.heap.size :: B535 :: W36.heap.size :: Bn :: Bi :: W13.heap.size :: W7.heap.size :: W2.heap.size :: w.heap.size :: L) W578 q from ⟨hnq, hiq, hcq⟩).less (fun x hx => by simp only [List.mem_cons] at hx ⊢; rcases hx with h_ | h_ | h_ <;> simp [h_]))
    have hm2 : MembI (n + 1) b0 (W13.heap.size :: W7.heap.size :: W2.heap.size :: w.heap.size :: L) u529 ((putN p.names name).take (k + 1)) u561 ((putT p.names name p.items q).take (k + 1)) W578 := ⟨hb0L, .inr ⟨B535, B567, n576, by omega, by omega, (by rw [← eputN]; exact k531), (by rw [← eputT]; exact k563), (by rw [← eputT]; exact hts2)⟩⟩
    have hL_ := hL.less (fun x hx => (.tail _ (.tail _ (.tail _ (.tail _ (.tail _ (.tail _ hx)))))))
    replace hag : AgL W29 (W13.heap.size :: W7.heap.size :: W2.heap.size :: w.heap.size :: L) (W13.heap.size :: W7.heap.size :: W2.heap.size :: w.heap.size :: L) W578 := ⟨fun _ h _ => h, hag.2⟩
    replace hnp := hnp6.agree hag.2
    replace hip := hip6.agree hag.2
    replace hnq := hnq6.agree hag.2
    replace hiq := hiq6.agree hag.2
    replace hcp : RdTs n (W13.heap.size :: W7.heap.size :: W2.heap.size :: w.heap.size :: L) W578 p.items := fun c hc_ => (hcp6 c hc_).agree hag.2
    replace hcq : RdTs n (W13.heap.size :: W7.heap.size :: W2.heap.size :: w.heap.size :: L) W578 q.items := fun c hc_ => (hcq6 c hc_).agree hag.2
    replace hL := hL_
    have hc1 : c_ = 1 := by rw [hc_]; unfold putC; rw [if_neg (fun h_ => by have := (List.getElem?_eq_some_iff.1 h_).1; omega)]
    refine Rg (Va (dx_loadN rfl ty_agg_26_5 rfl k580.range rfl) rfl rfl ?_)
    refine WL.do (dx_store (cs' := [.int .i64 6, .int .i64 0, .string ⟨#[]⟩, u529, u561]) (vs := [.int .i64 6, .int .i64 0, .string ⟨#[]⟩, u529, u561]) rfl ty_size_26_5 rfl rfl rfl (oc_cons rfl (oc_cons rfl (oc_cons rfl (oc_cons k531.one (oc_cons k563.one oc_nil))))) k14 rfl (Nat.le_of_ble_eq_true rfl) rfl) rfl ?_
    rintro _ W582 ⟨k584, o583⟩
    clear k14
    replace hm2 := hm2.only o583 (.tail _ (.head _))
    replace hB := o583.below hB l19
    refine Ni (hK581 ?_)
    exact WC.ret fun a_ ha_ => hQ (cv_ret1 rfl (.agg rfl ty_agg_26_5 k584.range rfl) (by rw [List.take_of_length_le (show (putN p.names name).length ≤ k + 1 by omega), List.take_of_length_le (show (putT p.names name p.items q).length ≤ k + 1 by omega)] at hm2; exact ⟨.mk 6 0 ⟨#[]⟩ u529 (putN p.names name) u561 (putT p.names name p.items q), rfl, (by rw [Tr.er_mk, putJ_eq, er_names, er_items, putT_map]), hm2.tree (fun x hx => (.tail _ (.tail _ (.tail _ (.tail _ hx))))) 6 0 ⟨#[]⟩⟩) hB ha_)

end Go.Proofs.Ytpinidlfcifeeaa

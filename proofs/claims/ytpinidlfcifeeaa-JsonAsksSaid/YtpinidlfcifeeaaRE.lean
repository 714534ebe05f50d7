/- Trees in the program: Right, Deep, Get, Same. The place of a text in a rising list of texts. No program stands here. slices.Insert on rows of cells: some rows, of a block of their own, into a slice of one's own. The place of a text in a rising slice of texts. A name, a colon and a value; an object. An object; values of every text. -/
import Derived.Test.YtpinidlfcifeeaaRD
namespace Go.Proofs.Ytpinidlfcifeeaa
open Go.RowKit
set_option linter.unusedVariables false
set_option linter.unusedSimpArgs false
set_option maxRecDepth 8000

def noT : Tr := .mk 0 0 ⟨#[]⟩ (.slice none 0 0) [] (.slice none 0 0) []
theorem noT_rd (n : Nat) (L : List Nat) (w : World) : RdT (n + 1) L w noT := ⟨RdF.nil (by decide), RdF.nil (by decide), fun c hc => by cases hc⟩
/-- The item of a name. -/
def getT (t : Tr) (name : ByteArray) : Tr × Bool := if t.kind = 6 ∧ 0 ≤ idxX (fun x => decide (name = x)) t.names 0 ∧ (idxX (fun x => decide (name = x)) t.names 0).toNat < t.items.length then ((t.items[(idxX (fun x => decide (name = x)) t.names 0).toNat]?).getD noT, true) else (noT, false)
theorem getT_mem (t : Tr) (name : ByteArray) : (getT t name).1 = noT ∨ (getT t name).1 ∈ t.items := by
  unfold getT
  split
  · rename_i h
    right
    show (t.items[_]?).getD noT ∈ t.items
    rw [List.getElem?_eq_getElem h.2.2]
    exact List.getElem_mem _
  · exact .inl rfl
theorem getT_rd {n : Nat} {L : List Nat} {w : World} {t : Tr} (h : RdT (n + 1) L w t) (name : ByteArray) : RdT (n + 1) L w (getT t name).1 := by
  rcases getT_mem t name with e | e
  · rw [e]; exact noT_rd _ _ _
  · exact (h.2.2 _ e).up
noncomputable def eqJ (a b : Js) : Bool := (Classical.propDecidable (a = b)).decide
theorem eqJ_t {a b : Js} (h : a = b) : eqJ a b = true := by
  unfold eqJ
  exact @decide_eq_true _ (Classical.propDecidable _) h
theorem eqJ_f {a b : Js} (h : a ≠ b) : eqJ a b = false := by
  unfold eqJ
  exact @decide_eq_false _ (Classical.propDecidable _) h
theorem er_eq {a b : Tr} (h1 : a.kind = b.kind) (h2 : a.num = b.num) (h3 : a.text = b.text) (h4 : a.names = b.names) (h5 : a.items.length = b.items.length) (h6 : ∀ (k : Nat) (c d : Tr), a.items[k]? = some c → b.items[k]? = some d → c.er = d.er) : a.er = b.er := by
  refine Js.ext (by rw [er_kind, er_kind, h1]) (by rw [er_num, er_num, h2]) (by rw [er_text, er_text, h3]) (by rw [er_names, er_names, h4]) ?_
  rw [er_items, er_items]
  refine List.ext_getElem? fun k => ?_
  rw [List.getElem?_map, List.getElem?_map]
  cases ha : a.items[k]? with
  | none =>
    have := List.getElem?_eq_none_iff.1 ha
    rw [List.getElem?_eq_none (by omega)]
  | some c =>
    have hk := (List.getElem?_eq_some_iff.1 ha).1
    rw [List.getElem?_eq_getElem (by omega : k < b.items.length)]
    show some c.er = some _
    rw [h6 k c _ ha (List.getElem?_eq_getElem (by omega : k < b.items.length))]
theorem er_parts {a b : Tr} (h : a.er = b.er) : a.kind = b.kind ∧ a.num = b.num ∧ a.text = b.text ∧ a.names = b.names ∧ a.items.map Tr.er = b.items.map Tr.er := by
  refine ⟨by rw [← er_kind, h, er_kind], by rw [← er_num, h, er_num], by rw [← er_text, h, er_text], by rw [← er_names, h, er_names], by rw [← er_items, h, er_items]⟩
theorem er_len {a b : Tr} (h : a.er = b.er) : a.items.length = b.items.length := by
  have := congrArg List.length (er_parts h).2.2.2.2
  rwa [List.length_map, List.length_map] at this
theorem er_item {a b : Tr} (h : a.er = b.er) {k : Nat} {c d : Tr} (hc : a.items[k]? = some c) (hd : b.items[k]? = some d) : c.er = d.er := by
  have := congrArg (fun l : List Js => l[k]?) (er_parts h).2.2.2.2
  simp only [List.getElem?_map, hc, hd, Option.map_some, Option.some.injEq] at this
  exact this
theorem maxJ_step {f : Js → Nat} {l : List Tr} {i : Nat} {r : Tr} (h : l[i]? = some r) : maxJ f ((l.take (i + 1)).map Tr.er) = max (maxJ f ((l.take i).map Tr.er)) (f r.er) := by
  rw [List.take_add_one, h, List.map_append, maxJ_app]
  simp [maxJ]
theorem maxJ_take {f : Js → Nat} (l : List Tr) (i : Nat) : maxJ f ((l.take i).map Tr.er) ≤ maxJ f (l.map Tr.er) := by
  have := maxJ_app f ((l.take i).map Tr.er) ((l.drop i).map Tr.er)
  rw [← List.map_append, List.take_append_drop] at this
  omega
theorem deep_leaf {n : Nat} {t : Tr} (h5 : t.kind ≠ 5) (h6 : t.kind ≠ 6) : deepJ n t.er = 0 := by
  cases n with
  | zero => rfl
  | succ n => rw [deepJ, er_kind, if_neg (by omega)]
theorem deep_node {n : Nat} {t : Tr} (h : t.kind = 5 ∨ t.kind = 6) : deepJ (n + 1) t.er = 1 + maxJ (deepJ n) (t.items.map Tr.er) := by
  rw [deepJ, er_kind, if_pos h, er_items]
set_option maxHeartbeats 1000000 in
theorem jRight_v (n : Nat) (t : Tr) (w : World) (L : List Nat) (hL : LL L w) (ht : RdT (n + 1) L w t)  (hz : SzT 1000000 (n + 1) t) : CV Try.prog 15 [.agg #[.int .i64 t.kind, .int .i64 t.num, .string t.text, t.nv, t.iv]] w fun v W => v = .bool (rightJ upB 12 t.er) := by
  refine cv_enter (N := 4) (f := [(0, .agg #[.int .i64 t.kind, .int .i64 t.num, .string t.text, t.nv, t.iv])]) Try.func15 rfl rfl rfl rfl fun Q hQ hE => ?_
  have hB := Below.refl w.heap.size w
  refine WC.seq fun K1 hK1 => ?_
  obtain ⟨hnt, hit, hct⟩ := ht
  replace hct : RdTs n (L) w t.items := hct
  refine WC.region ?_
  refine WL.get (dx_box rfl rfl rfl) rfl rfl ?_
  rintro _ W2 ⟨rfl, k3, b4, z5⟩
  have l6 := hB.size
  replace hnt := hnt.more b4 (Nat.le_refl _)
  replace hit := hit.more b4 (Nat.le_refl _)
  replace hct := hct.more b4 (Nat.le_refl _)
  replace hB := below_then hB b4
  replace hL := LL.more hL z5
  refine WL.val (dx_assign rfl rfl) rfl rfl ?_
  refine WL.nil ?_
  refine hK1 ?_
  refine WC.seq fun K7 hK7 => ?_
  refine WC.region ?_
  refine WL.get (dx_cv rfl Try.func40 rfl rfl rfl (right_all (n + 1) t 12 _ W2 [] (LL.nil _) ((show RdT (n + 1) (w.heap.size :: L) W2 t from ⟨hnt, hit, hct⟩).less (fun x hx => by cases hx)) ⟨Nat.succ_pos _, w.heap.size, 0, rfl, by simp, k3.range⟩ hz (by decide))) rfl rfl ?_
  rintro _ W9 ⟨rfl, b8⟩
  replace hnt := hnt.below b8
  replace hit := hit.below b8
  replace hct := hct.below b8
  replace k3 := k3.below b8
  replace hB := below_then hB b8
  replace hL := LL.below hL b8
  refine WL.val (dx_assign rfl rfl) rfl rfl ?_
  refine WL.nil ?_
  refine hK7 ?_
  refine WC.ret fun a_ ha_ => ?_
  exact hQ (cv_ret1 rfl (.tmp rfl) rfl hB ha_)

abbrev DeepAt (n : Nat) : Prop := ∀ (t : Tr) (most : Nat) (u : Value) (w : World) (L : List Nat), LL L w → RdT n L w t → PtR L w u (encT t) → most ≤ 100 → CV Try.prog 43 [u, .int .i64 (most : Int)] w fun v W => v = .int .i64 (deepJ most t.er : Nat)
set_option maxHeartbeats 1000000 in
theorem deep_step (n : Nat) (ih : DeepAt n) (t : Tr) (most : Nat) (u : Value) (w : World) (L : List Nat) (hL : LL L w) (ht : RdT (n + 1) L w t) (hu : PtR L w u (encT t))  (hrm : most ≤ 100) : CV Try.prog 43 [u, .int .i64 (most : Int)] w fun v W => v = .int .i64 (deepJ most t.er : Nat) := by
  refine cv_enter (N := 49) (f := [(0, u), (1, .int .i64 (most : Int))]) Try.func43 rfl rfl rfl rfl fun Q hQ hE => ?_
  have hB := Below.refl w.heap.size w
  refine WC.seq fun K1 hK1 => ?_
  obtain ⟨hnt, hit, hct⟩ := ht
  replace hct : RdTs n (L) w t.items := hct
  have hil0 := hit.len
  rw [List.length_map] at hil0
  unfold maxLen at hil0
  rcases (show t.kind = 5 ∨ t.kind = 6 ∨ (t.kind ≠ 5 ∧ t.kind ≠ 6) by omega) with hkt | hkt | hkt
  ·
    refine WC.region ?_
    refine WL.val (dx_assign rfl rfl) rfl rfl ?_
    refine WL.nil ?_
    refine hK1 ?_
    refine WC.seq fun K2 hK2 => ?_
    refine WC.seq fun K3 hK3 => ?_
    cases most with
    | zero =>
      refine WC.region ?_
      refine WL.val (dx_move rfl rfl) rfl rfl ?_
      refine WL.val (dv_T (dx_eql rfl rfl rfl) (by omega)) rfl rfl ?_
      refine WL.val (dx_move rfl rfl) rfl rfl ?_
      refine WL.off rfl rfl rfl ?_
      refine WL.off rfl rfl rfl ?_
      refine WL.off rfl rfl rfl ?_
      refine WL.off rfl rfl rfl ?_
      refine WL.off rfl rfl rfl ?_
      refine WL.off rfl rfl rfl ?_
      refine WL.off rfl rfl rfl ?_
      refine WL.off rfl rfl rfl ?_
      refine WL.off rfl rfl rfl ?_
      refine WL.off rfl rfl rfl ?_
      refine WL.off rfl rfl rfl ?_
      refine WL.off rfl rfl rfl ?_
      refine WL.val (dx_pick rfl rfl rfl) rfl rfl ?_
      refine WL.nil ?_
      refine hK3 ?_
      refine WC.condT rfl ?_
      refine WC.seq fun K4 hK4 => ?_
      refine WC.region ?_
      refine WL.val (dx_assign rfl rfl) rfl rfl ?_
      refine WL.nil ?_
      refine hK4 ?_
      refine WC.ret fun a_ ha_ => ?_
      exact hQ (cv_ret1 rfl (.tmp rfl) rfl hB ha_)
    | succ m =>
      refine WC.region ?_
      refine WL.val (dx_move rfl rfl) rfl rfl ?_
      refine WL.val (dv_N (dx_eql rfl rfl rfl) (by omega)) rfl rfl ?_
      refine WL.val (dx_move rfl rfl) rfl rfl ?_
      refine WL.val (dx_move rfl rfl) rfl rfl ?_
      refine WL.val (dx_nilP rfl rfl hu) rfl rfl ?_
      refine WL.get (dx_fldP 1 rfl ty_fld_26_0_0 rfl hu (cs' := [.int .i64 t.kind]) rfl (Nat.succ_pos _)) rfl rfl ?_
      rintro u5 _ ⟨rfl, p6⟩
      refine WL.val ((hkt ▸ dx_loadP rfl ty_one_3 rfl p6)) rfl rfl ?_
      refine WL.val (dx_neq rfl rfl rfl) rfl rfl ?_
      refine WL.val (dx_move rfl rfl) rfl rfl ?_
      refine WL.off rfl rfl rfl ?_
      refine WL.off rfl rfl rfl ?_
      refine WL.off rfl rfl rfl ?_
      refine WL.off rfl rfl rfl ?_
      refine WL.off rfl rfl rfl ?_
      refine WL.val (dx_pick rfl rfl rfl) rfl rfl ?_
      refine WL.val (dx_pick rfl rfl rfl) rfl rfl ?_
      refine WL.nil ?_
      refine hK3 ?_
      refine WC.condF rfl ?_
      refine WC.skip ?_
      refine hK2 ?_
      refine WC.seq fun K7 hK7 => ?_
      refine WC.region ?_
      refine WL.val (dx_assign rfl rfl) rfl rfl ?_
      refine WL.nil ?_
      refine hK7 ?_
      refine WC.seq fun K8 hK8 => ?_
      refine WC.seq fun K9 hK9 => ?_
      refine WC.region ?_
      refine WL.val (dx_move rfl rfl) rfl rfl ?_
      refine WL.val (dx_nilP rfl rfl hu) rfl rfl ?_
      refine WL.get (dx_fldP 1 rfl ty_fld_26_4_4 rfl hu (cs' := [t.iv]) rfl (Nat.succ_pos _)) rfl rfl ?_
      rintro u10 _ ⟨rfl, p11⟩
      refine WL.val (dx_loadP rfl ty_one_24 rfl p11) rfl rfl ?_
      refine WL.val (dx_lenFM rfl ty_slice_24 rfl hit) rfl rfl ?_
      refine WL.val (dx_move rfl rfl) rfl rfl ?_
      refine WL.nil ?_
      refine hK9 ?_
      refine WC.block ?_
      refine WC.loop2 (fun (i : Nat) (b : Nat) => [(0, u), (1, .int .i64 ((m + 1 : Nat) : Int)), (27, .int .i64 (t.items.length : Int)), (28, .int .i64 (i : Int)), (5, .int .i64 (b : Int))]) (fun (i : Nat) (b : Nat) W => i ≤ t.items.length ∧ b = maxJ (deepJ m) ((t.items.take i).map Tr.er) ∧ b ≤ m ∧ Below w.heap.size w W ∧ LL (L) W ∧ PtR (L) W u (encT t) ∧ RdF 1 (L) W t.nv (t.names.map eS) ∧ RdF 5 (L) W t.iv (t.items.map encT) ∧ RdTs n (L) W t.items) (fun (i : Nat) (b : Nat) => t.items.length - i) 0 0 (by repeat first | exact trivial | exact And.intro rfl trivial | refine And.intro rfl ?_ | refine And.intro (congrArg (fun z : Int => some (Value.int .i64 z)) (by omega)) ?_) ⟨Nat.zero_le _, rfl, Nat.zero_le _, hB, hL, hu, hnt, hit, hct⟩ ?_
      clear hu hnt hit hct hB hL
      rintro K12 i b W13 ⟨hi, hb, hbm, hB, hL, hu, hnt, hit, hct⟩ hK12
      refine WC.seq fun K14 hK14 => ?_
      refine WC.region ?_
      refine WL.val (dx_lss rfl rfl rfl) rfl rfl ?_
      refine WL.nil ?_
      refine hK14 ?_
      refine WC.seq fun K15 hK15 => ?_
      refine WC.cond rfl (fun c16 => ?_) (fun c16 => ?_)
      ·
        replace c16 := of_decide_eq_true c16
        refine WC.skip ?_
        refine hK15 ?_
        refine WC.seq fun K17 hK17 => ?_
        refine WC.block ?_
        refine WC.seq fun K18 hK18 => ?_
        refine WC.region ?_
        refine WL.val (dx_move rfl rfl) rfl rfl ?_
        refine WL.val (dx_assign rfl rfl) rfl rfl ?_
        refine WL.nil ?_
        refine hK18 ?_
        refine WC.seq fun K19 hK19 => ?_
        refine WC.region ?_
        refine WL.val (dx_move rfl rfl) rfl rfl ?_
        refine WL.val (dx_move rfl rfl) rfl rfl ?_
        refine WL.val (dx_nilP rfl rfl hu) rfl rfl ?_
        refine WL.get (dx_fldP 1 rfl ty_fld_26_4_4 rfl hu (cs' := [t.iv]) rfl (Nat.succ_pos _)) rfl rfl ?_
        rintro u20 _ ⟨rfl, p21⟩
        refine WL.val (dx_loadP rfl ty_one_24 rfl p21) rfl rfl ?_
        refine WL.val (dx_move rfl rfl) rfl rfl ?_
        obtain ⟨r22, e23⟩ : ∃ x, t.items[i]? = some x := ⟨_, List.getElem?_eq_getElem (by omega)⟩
        refine WL.get (dx_idxF i rfl ty_slice_24 rfl rfl hit (by omega) (at_mapX e23)) rfl rfl ?_
        rintro u24 _ ⟨rfl, p25⟩
        refine WL.val (dx_move rfl rfl) rfl rfl ?_
        refine WL.val (dx_sub (r := (m : Int)) rfl rfl rfl (by rw [wrap64_id (by omega)]; omega)) rfl rfl ?_
        have hdl := deepJ_le m r22.er
        refine WL.get (dx_cv rfl Try.func43 rfl rfl rfl (ih r22 m _ W13 _ hL (hct r22 (List.mem_of_getElem? e23)) p25 (by omega))) rfl rfl ?_
        rintro _ W27 ⟨rfl, b26⟩
        replace hu := hu.below b26
        replace hnt := hnt.below b26
        replace hit := hit.below b26
        replace hct := hct.below b26
        replace p21 := p21.below b26
        replace p25 := p25.below b26
        replace hB := below_then hB b26
        replace hL := LL.below hL b26
        refine WL.val (dx_max rfl rfl rfl) rfl rfl ?_
        refine WL.val (dx_assign rfl rfl) rfl rfl ?_
        refine WL.nil ?_
        refine hK19 ?_
        refine WC.seq fun K28 hK28 => ?_
        refine WC.region ?_
        refine WL.val (dx_move rfl rfl) rfl rfl ?_
        refine WL.val (dx_move rfl rfl) rfl rfl ?_
        refine WL.val (dx_sub (r := (m : Int)) rfl rfl rfl (by rw [wrap64_id (by omega)]; omega)) rfl rfl ?_
        refine WL.val (dx_eql rfl rfl rfl) rfl rfl ?_
        refine WL.nil ?_
        refine hK28 ?_
        refine WC.cond rfl (fun c29 => ?_) (fun c29 => ?_)
        ·
          replace c29 := of_decide_eq_true c29
          refine WC.exit ?_
          refine hK8 ?_
          refine WC.seq fun K30 hK30 => ?_
          refine WC.region ?_
          refine WL.val (dx_move rfl rfl) rfl rfl ?_
          refine WL.val (dx_add (r := 1 + (if (b : Int) < ((deepJ m r22.er : Nat) : Int) then ((deepJ m r22.er : Nat) : Int) else (b : Int))) rfl rfl rfl (wrap64_id (by omega))) rfl rfl ?_
          refine WL.val (dx_assign rfl rfl) rfl rfl ?_
          refine WL.nil ?_
          refine hK30 ?_
          refine WC.ret fun a_ ha_ => ?_
          exact hQ (cv_ret1 rfl (.tmp rfl) (by rw [deep_node (by first | exact .inl hkt | exact .inr hkt)]; first | (have e0 := maxJ_take (f := deepJ m) t.items i; have e4 : t.items.take i = t.items := List.take_of_length_le (by omega); rw [e4] at hb; exact congrArg (Value.int .i64) (by omega)) | (have e1 := maxJ_step (f := deepJ m) e23; have e2 := maxJ_take (f := deepJ m) t.items (i + 1); have e3 := maxJ_le (f := deepJ m) (k := m) (l := t.items.map Tr.er) (fun j _ => deepJ_le m j); exact congrArg (Value.int .i64) (by omega))) hB ha_)
        ·
          replace c29 := of_decide_eq_false c29
          refine WC.skip ?_
          refine hK17 ?_
          refine WC.region ?_
          refine WL.val (dx_add (r := (i : Int) + 1) rfl rfl rfl (wrap64_id (by omega))) rfl rfl ?_
          refine WL.val (dx_move rfl rfl) rfl rfl ?_
          refine WL.nil ?_
          exact hK12 (i + 1) (max b (deepJ m r22.er)) ⟨(by omega), (by rw [maxJ_step e23, ← hb]), (by omega), hB, hL, hu, hnt, hit, hct⟩ (by omega) (by repeat first | exact trivial | exact And.intro rfl trivial | refine And.intro rfl ?_ | refine And.intro (congrArg (fun z : Int => some (Value.int .i64 z)) (by omega)) ?_)
      ·
        replace c16 := of_decide_eq_false c16
        refine WC.exit ?_
        refine hK8 ?_
        refine WC.seq fun K31 hK31 => ?_
        refine WC.region ?_
        refine WL.val (dx_move rfl rfl) rfl rfl ?_
        refine WL.val (dx_add (r := 1 + (b : Int)) rfl rfl rfl (wrap64_id (by omega))) rfl rfl ?_
        refine WL.val (dx_assign rfl rfl) rfl rfl ?_
        refine WL.nil ?_
        refine hK31 ?_
        refine WC.ret fun a_ ha_ => ?_
        exact hQ (cv_ret1 rfl (.tmp rfl) (by rw [deep_node (by first | exact .inl hkt | exact .inr hkt)]; first | (have e0 := maxJ_take (f := deepJ m) t.items i; have e4 : t.items.take i = t.items := List.take_of_length_le (by omega); rw [e4] at hb; exact congrArg (Value.int .i64) (by omega)) | fail) hB ha_)
  ·
    refine WC.region ?_
    refine WL.val (dx_assign rfl rfl) rfl rfl ?_
    refine WL.nil ?_
    refine hK1 ?_
    refine WC.seq fun K32 hK32 => ?_
    refine WC.seq fun K33 hK33 => ?_
    cases most with
    | zero =>
      refine WC.region ?_
      refine WL.val (dx_move rfl rfl) rfl rfl ?_
      refine WL.val (dv_T (dx_eql rfl rfl rfl) (by omega)) rfl rfl ?_
      refine WL.val (dx_move rfl rfl) rfl rfl ?_
      refine WL.off rfl rfl rfl ?_
      refine WL.off rfl rfl rfl ?_
      refine WL.off rfl rfl rfl ?_
      refine WL.off rfl rfl rfl ?_
      refine WL.off rfl rfl rfl ?_
      refine WL.off rfl rfl rfl ?_
      refine WL.off rfl rfl rfl ?_
      refine WL.off rfl rfl rfl ?_
      refine WL.off rfl rfl rfl ?_
      refine WL.off rfl rfl rfl ?_
      refine WL.off rfl rfl rfl ?_
      refine WL.off rfl rfl rfl ?_
      refine WL.val (dx_pick rfl rfl rfl) rfl rfl ?_
      refine WL.nil ?_
      refine hK33 ?_
      refine WC.condT rfl ?_
      refine WC.seq fun K34 hK34 => ?_
      refine WC.region ?_
      refine WL.val (dx_assign rfl rfl) rfl rfl ?_
      refine WL.nil ?_
      refine hK34 ?_
      refine WC.ret fun a_ ha_ => ?_
      exact hQ (cv_ret1 rfl (.tmp rfl) rfl hB ha_)
    | succ m =>
      refine WC.region ?_
      refine WL.val (dx_move rfl rfl) rfl rfl ?_
      refine WL.val (dv_N (dx_eql rfl rfl rfl) (by omega)) rfl rfl ?_
      refine WL.val (dx_move rfl rfl) rfl rfl ?_
      refine WL.val (dx_move rfl rfl) rfl rfl ?_
      refine WL.val (dx_nilP rfl rfl hu) rfl rfl ?_
      refine WL.get (dx_fldP 1 rfl ty_fld_26_0_0 rfl hu (cs' := [.int .i64 t.kind]) rfl (Nat.succ_pos _)) rfl rfl ?_
      rintro u35 _ ⟨rfl, p36⟩
      refine WL.val ((hkt ▸ dx_loadP rfl ty_one_3 rfl p36)) rfl rfl ?_
      refine WL.val (dx_neq rfl rfl rfl) rfl rfl ?_
      refine WL.val (dx_move rfl rfl) rfl rfl ?_
      refine WL.val (dx_move rfl rfl) rfl rfl ?_
      refine WL.val (dx_nilP rfl rfl hu) rfl rfl ?_
      refine WL.get (dx_fldP 1 rfl ty_fld_26_0_0 rfl hu (cs' := [.int .i64 t.kind]) rfl (Nat.succ_pos _)) rfl rfl ?_
      rintro u37 _ ⟨rfl, p38⟩
      refine WL.val ((hkt ▸ dx_loadP rfl ty_one_3 rfl p38)) rfl rfl ?_
      refine WL.val (dx_neq rfl rfl rfl) rfl rfl ?_
      refine WL.val (dx_pick rfl rfl rfl) rfl rfl ?_
      refine WL.val (dx_pick rfl rfl rfl) rfl rfl ?_
      refine WL.nil ?_
      refine hK33 ?_
      refine WC.condF rfl ?_
      refine WC.skip ?_
      refine hK32 ?_
      refine WC.seq fun K39 hK39 => ?_
      refine WC.region ?_
      refine WL.val (dx_assign rfl rfl) rfl rfl ?_
      refine WL.nil ?_
      refine hK39 ?_
      refine WC.seq fun K40 hK40 => ?_
      refine WC.seq fun K41 hK41 => ?_
      refine WC.region ?_
      refine WL.val (dx_move rfl rfl) rfl rfl ?_
      refine WL.val (dx_nilP rfl rfl hu) rfl rfl ?_
      refine WL.get (dx_fldP 1 rfl ty_fld_26_4_4 rfl hu (cs' := [t.iv]) rfl (Nat.succ_pos _)) rfl rfl ?_
      rintro u42 _ ⟨rfl, p43⟩
      refine WL.val (dx_loadP rfl ty_one_24 rfl p43) rfl rfl ?_
      refine WL.val (dx_lenFM rfl ty_slice_24 rfl hit) rfl rfl ?_
      refine WL.val (dx_move rfl rfl) rfl rfl ?_
      refine WL.nil ?_
      refine hK41 ?_
      refine WC.block ?_
      refine WC.loop2 (fun (i : Nat) (b : Nat) => [(0, u), (1, .int .i64 ((m + 1 : Nat) : Int)), (27, .int .i64 (t.items.length : Int)), (28, .int .i64 (i : Int)), (5, .int .i64 (b : Int))]) (fun (i : Nat) (b : Nat) W => i ≤ t.items.length ∧ b = maxJ (deepJ m) ((t.items.take i).map Tr.er) ∧ b ≤ m ∧ Below w.heap.size w W ∧ LL (L) W ∧ PtR (L) W u (encT t) ∧ RdF 1 (L) W t.nv (t.names.map eS) ∧ RdF 5 (L) W t.iv (t.items.map encT) ∧ RdTs n (L) W t.items) (fun (i : Nat) (b : Nat) => t.items.length - i) 0 0 (by repeat first | exact trivial | exact And.intro rfl trivial | refine And.intro rfl ?_ | refine And.intro (congrArg (fun z : Int => some (Value.int .i64 z)) (by omega)) ?_) ⟨Nat.zero_le _, rfl, Nat.zero_le _, hB, hL, hu, hnt, hit, hct⟩ ?_
      clear hu hnt hit hct hB hL
      rintro K44 i b W45 ⟨hi, hb, hbm, hB, hL, hu, hnt, hit, hct⟩ hK44
      refine WC.seq fun K46 hK46 => ?_
      refine WC.region ?_
      refine WL.val (dx_lss rfl rfl rfl) rfl rfl ?_
      refine WL.nil ?_
      refine hK46 ?_
      refine WC.seq fun K47 hK47 => ?_
      refine WC.cond rfl (fun c48 => ?_) (fun c48 => ?_)
      ·
        replace c48 := of_decide_eq_true c48
        refine WC.skip ?_
        refine hK47 ?_
        refine WC.seq fun K49 hK49 => ?_
        refine WC.block ?_
        refine WC.seq fun K50 hK50 => ?_
        refine WC.region ?_
        refine WL.val (dx_move rfl rfl) rfl rfl ?_
        refine WL.val (dx_assign rfl rfl) rfl rfl ?_
        refine WL.nil ?_
        refine hK50 ?_
        refine WC.seq fun K51 hK51 => ?_
        refine WC.region ?_
        refine WL.val (dx_move rfl rfl) rfl rfl ?_
        refine WL.val (dx_move rfl rfl) rfl rfl ?_
        refine WL.val (dx_nilP rfl rfl hu) rfl rfl ?_
        refine WL.get (dx_fldP 1 rfl ty_fld_26_4_4 rfl hu (cs' := [t.iv]) rfl (Nat.succ_pos _)) rfl rfl ?_
        rintro u52 _ ⟨rfl, p53⟩
        refine WL.val (dx_loadP rfl ty_one_24 rfl p53) rfl rfl ?_
        refine WL.val (dx_move rfl rfl) rfl rfl ?_
        obtain ⟨r54, e55⟩ : ∃ x, t.items[i]? = some x := ⟨_, List.getElem?_eq_getElem (by omega)⟩
        refine WL.get (dx_idxF i rfl ty_slice_24 rfl rfl hit (by omega) (at_mapX e55)) rfl rfl ?_
        rintro u56 _ ⟨rfl, p57⟩
        refine WL.val (dx_move rfl rfl) rfl rfl ?_
        refine WL.val (dx_sub (r := (m : Int)) rfl rfl rfl (by rw [wrap64_id (by omega)]; omega)) rfl rfl ?_
        have hdl := deepJ_le m r54.er
        refine WL.get (dx_cv rfl Try.func43 rfl rfl rfl (ih r54 m _ W45 _ hL (hct r54 (List.mem_of_getElem? e55)) p57 (by omega))) rfl rfl ?_
        rintro _ W59 ⟨rfl, b58⟩
        replace hu := hu.below b58
        replace hnt := hnt.below b58
        replace hit := hit.below b58
        replace hct := hct.below b58
        replace p53 := p53.below b58
        replace p57 := p57.below b58
        replace hB := below_then hB b58
        replace hL := LL.below hL b58
        refine WL.val (dx_max rfl rfl rfl) rfl rfl ?_
        refine WL.val (dx_assign rfl rfl) rfl rfl ?_
        refine WL.nil ?_
        refine hK51 ?_
        refine WC.seq fun K60 hK60 => ?_
        refine WC.region ?_
        refine WL.val (dx_move rfl rfl) rfl rfl ?_
        refine WL.val (dx_move rfl rfl) rfl rfl ?_
        refine WL.val (dx_sub (r := (m : Int)) rfl rfl rfl (by rw [wrap64_id (by omega)]; omega)) rfl rfl ?_
        refine WL.val (dx_eql rfl rfl rfl) rfl rfl ?_
        refine WL.nil ?_
        refine hK60 ?_
        refine WC.cond rfl (fun c61 => ?_) (fun c61 => ?_)
        ·
          replace c61 := of_decide_eq_true c61
          refine WC.exit ?_
          refine hK40 ?_
          refine WC.seq fun K62 hK62 => ?_
          refine WC.region ?_
          refine WL.val (dx_move rfl rfl) rfl rfl ?_
          refine WL.val (dx_add (r := 1 + (if (b : Int) < ((deepJ m r54.er : Nat) : Int) then ((deepJ m r54.er : Nat) : Int) else (b : Int))) rfl rfl rfl (wrap64_id (by omega))) rfl rfl ?_
          refine WL.val (dx_assign rfl rfl) rfl rfl ?_
          refine WL.nil ?_
          refine hK62 ?_
          refine WC.ret fun a_ ha_ => ?_
          exact hQ (cv_ret1 rfl (.tmp rfl) (by rw [deep_node (by first | exact .inl hkt | exact .inr hkt)]; first | (have e0 := maxJ_take (f := deepJ m) t.items i; have e4 : t.items.take i = t.items := List.take_of_length_le (by omega); rw [e4] at hb; exact congrArg (Value.int .i64) (by omega)) | (have e1 := maxJ_step (f := deepJ m) e55; have e2 := maxJ_take (f := deepJ m) t.items (i + 1); have e3 := maxJ_le (f := deepJ m) (k := m) (l := t.items.map Tr.er) (fun j _ => deepJ_le m j); exact congrArg (Value.int .i64) (by omega))) hB ha_)
        ·
          replace c61 := of_decide_eq_false c61
          refine WC.skip ?_
          refine hK49 ?_
          refine WC.region ?_
          refine WL.val (dx_add (r := (i : Int) + 1) rfl rfl rfl (wrap64_id (by omega))) rfl rfl ?_
          refine WL.val (dx_move rfl rfl) rfl rfl ?_
          refine WL.nil ?_
          exact hK44 (i + 1) (max b (deepJ m r54.er)) ⟨(by omega), (by rw [maxJ_step e55, ← hb]), (by omega), hB, hL, hu, hnt, hit, hct⟩ (by omega) (by repeat first | exact trivial | exact And.intro rfl trivial | refine And.intro rfl ?_ | refine And.intro (congrArg (fun z : Int => some (Value.int .i64 z)) (by omega)) ?_)
      ·
        replace c48 := of_decide_eq_false c48
        refine WC.exit ?_
        refine hK40 ?_
        refine WC.seq fun K63 hK63 => ?_
        refine WC.region ?_
        refine WL.val (dx_move rfl rfl) rfl rfl ?_
        refine WL.val (dx_add (r := 1 + (b : Int)) rfl rfl rfl (wrap64_id (by omega))) rfl rfl ?_
        refine WL.val (dx_assign rfl rfl) rfl rfl ?_
        refine WL.nil ?_
        refine hK63 ?_
        refine WC.ret fun a_ ha_ => ?_
        exact hQ (cv_ret1 rfl (.tmp rfl) (by rw [deep_node (by first | exact .inl hkt | exact .inr hkt)]; first | (have e0 := maxJ_take (f := deepJ m) t.items i; have e4 : t.items.take i = t.items := List.take_of_length_le (by omega); rw [e4] at hb; exact congrArg (Value.int .i64) (by omega)) | fail) hB ha_)
  ·
    refine WC.region ?_
    refine WL.val (dx_assign rfl rfl) rfl rfl ?_
    refine WL.nil ?_
    refine hK1 ?_
    refine WC.seq fun K64 hK64 => ?_
    refine WC.seq fun K65 hK65 => ?_
    cases most with
    | zero =>
      refine WC.region ?_
      refine WL.val (dx_move rfl rfl) rfl rfl ?_
      refine WL.val (dv_T (dx_eql rfl rfl rfl) (by omega)) rfl rfl ?_
      refine WL.val (dx_move rfl rfl) rfl rfl ?_
      refine WL.off rfl rfl rfl ?_
      refine WL.off rfl rfl rfl ?_
      refine WL.off rfl rfl rfl ?_
      refine WL.off rfl rfl rfl ?_
      refine WL.off rfl rfl rfl ?_
      refine WL.off rfl rfl rfl ?_
      refine WL.off rfl rfl rfl ?_
      refine WL.off rfl rfl rfl ?_
      refine WL.off rfl rfl rfl ?_
      refine WL.off rfl rfl rfl ?_
      refine WL.off rfl rfl rfl ?_
      refine WL.off rfl rfl rfl ?_
      refine WL.val (dx_pick rfl rfl rfl) rfl rfl ?_
      refine WL.nil ?_
      refine hK65 ?_
      refine WC.condT rfl ?_
      refine WC.seq fun K66 hK66 => ?_
      refine WC.region ?_
      refine WL.val (dx_assign rfl rfl) rfl rfl ?_
      refine WL.nil ?_
      refine hK66 ?_
      refine WC.ret fun a_ ha_ => ?_
      exact hQ (cv_ret1 rfl (.tmp rfl) (by rw [deep_leaf (by omega) (by omega)]; rfl) hB ha_)
    | succ m =>
      refine WC.region ?_
      refine WL.val (dx_move rfl rfl) rfl rfl ?_
      refine WL.val (dv_N (dx_eql rfl rfl rfl) (by omega)) rfl rfl ?_
      refine WL.val (dx_move rfl rfl) rfl rfl ?_
      refine WL.val (dx_move rfl rfl) rfl rfl ?_
      refine WL.val (dx_nilP rfl rfl hu) rfl rfl ?_
      refine WL.get (dx_fldP 1 rfl ty_fld_26_0_0 rfl hu (cs' := [.int .i64 t.kind]) rfl (Nat.succ_pos _)) rfl rfl ?_
      rintro u67 _ ⟨rfl, p68⟩
      refine WL.val (dx_loadP rfl ty_one_3 rfl p68) rfl rfl ?_
      refine WL.val (dv_NT (dx_neq rfl rfl rfl) (by omega)) rfl rfl ?_
      refine WL.val (dx_move rfl rfl) rfl rfl ?_
      refine WL.val (dx_move rfl rfl) rfl rfl ?_
      refine WL.val (dx_nilP rfl rfl hu) rfl rfl ?_
      refine WL.get (dx_fldP 1 rfl ty_fld_26_0_0 rfl hu (cs' := [.int .i64 t.kind]) rfl (Nat.succ_pos _)) rfl rfl ?_
      rintro u69 _ ⟨rfl, p70⟩
      refine WL.val (dx_loadP rfl ty_one_3 rfl p70) rfl rfl ?_
      refine WL.val (dv_NT (dx_neq rfl rfl rfl) (by omega)) rfl rfl ?_
      refine WL.val (dx_pick rfl rfl rfl) rfl rfl ?_
      refine WL.val (dx_pick rfl rfl rfl) rfl rfl ?_
      refine WL.nil ?_
      refine hK65 ?_
      refine WC.condT rfl ?_
      refine WC.seq fun K71 hK71 => ?_
      refine WC.region ?_
      refine WL.val (dx_assign rfl rfl) rfl rfl ?_
      refine WL.nil ?_
      refine hK71 ?_
      refine WC.ret fun a_ ha_ => ?_
      exact hQ (cv_ret1 rfl (.tmp rfl) (by rw [deep_leaf (by omega) (by omega)]; rfl) hB ha_)

theorem deep_all : ∀ n, DeepAt n
  | 0 => fun t _ _ _ _ _ h => h.elim
  | n + 1 => fun t most u w L hL ht hu hr => deep_step n (deep_all n) t most u w L hL ht hu hr
set_option maxHeartbeats 1000000 in
theorem jDeep_v (n : Nat) (t : Tr) (w : World) (L : List Nat) (hL : LL L w) (ht : RdT (n + 1) L w t) : CV Try.prog 20 [.agg #[.int .i64 t.kind, .int .i64 t.num, .string t.text, t.nv, t.iv]] w fun v W => v = .int .i64 (deepJ 13 t.er : Nat) := by
  refine cv_enter (N := 4) (f := [(0, .agg #[.int .i64 t.kind, .int .i64 t.num, .string t.text, t.nv, t.iv])]) Try.func20 rfl rfl rfl rfl fun Q hQ hE => ?_
  have hB := Below.refl w.heap.size w
  refine WC.seq fun K1 hK1 => ?_
  obtain ⟨hnt, hit, hct⟩ := ht
  replace hct : RdTs n (L) w t.items := hct
  refine WC.region ?_
  refine WL.get (dx_box rfl rfl rfl) rfl rfl ?_
  rintro _ W2 ⟨rfl, k3, b4, z5⟩
  have l6 := hB.size
  replace hnt := hnt.more b4 (Nat.le_refl _)
  replace hit := hit.more b4 (Nat.le_refl _)
  replace hct := hct.more b4 (Nat.le_refl _)
  replace hB := below_then hB b4
  replace hL := LL.more hL z5
  refine WL.val (dx_assign rfl rfl) rfl rfl ?_
  refine WL.nil ?_
  refine hK1 ?_
  refine WC.seq fun K7 hK7 => ?_
  refine WC.region ?_
  refine WL.get (dx_cv rfl Try.func43 rfl rfl rfl (deep_all (n + 1) t 13 _ W2 [] (LL.nil _) ((show RdT (n + 1) (w.heap.size :: L) W2 t from ⟨hnt, hit, hct⟩).less (fun x hx => by cases hx)) ⟨Nat.succ_pos _, w.heap.size, 0, rfl, by simp, k3.range⟩ (by decide))) rfl rfl ?_
  rintro _ W9 ⟨rfl, b8⟩
  replace hnt := hnt.below b8
  replace hit := hit.below b8
  replace hct := hct.below b8
  replace k3 := k3.below b8
  replace hB := below_then hB b8
  replace hL := LL.below hL b8
  refine WL.val (dx_assign rfl rfl) rfl rfl ?_
  refine WL.nil ?_
  refine hK7 ?_
  refine WC.ret fun a_ ha_ => ?_
  exact hQ (cv_ret1 rfl (.tmp rfl) rfl hB ha_)

set_option maxHeartbeats 1000000 in
theorem indexT_v (ts : List ByteArray) (t : ByteArray) (tv : Value) (w : World) (L : List Nat) (hL : LL L w) (h3 : RdF 1 L w tv (ts.map eS)) : CV Try.prog 41 [tv, .string t] w fun v W => v = .int .i64 (idxX (fun x => decide (t = x)) ts 0) := by
  refine cv_enter (N := 19) (f := [(0, tv), (1, .string t)]) Try.func41 rfl rfl rfl rfl fun Q hQ hE => ?_
  have hB := Below.refl w.heap.size w
  have h3m : ts.length ≤ maxLen := by have := h3.len; rwa [List.length_map] at this
  unfold maxLen at h3m
  refine WC.seq fun K1 hK1 => ?_
  refine WC.region ?_
  refine WL.val (dx_assign rfl rfl) rfl rfl ?_
  refine WL.nil ?_
  refine hK1 ?_
  refine WC.seq fun K2 hK2 => ?_
  refine WC.seq fun K3 hK3 => ?_
  refine WC.region ?_
  refine WL.val (dx_move rfl rfl) rfl rfl ?_
  refine WL.val (dx_lenFM rfl ty_slice_23 rfl h3) rfl rfl ?_
  refine WL.val (dx_move rfl rfl) rfl rfl ?_
  refine WL.nil ?_
  refine hK3 ?_
  refine WC.block ?_
  refine WC.loop (fun (i : Nat) => [(0, tv), (1, .string t), (7, .int .i64 (ts.length : Int)), (8, .int .i64 (i : Int))]) (fun (i : Nat) W => i ≤ ts.length ∧ idxX (fun x => decide (t = x)) ts 0 = idxX (fun x => decide (t = x)) (ts.drop i) i ∧ Below w.heap.size w W ∧ LL (L) W ∧ RdF 1 (L) W tv (ts.map eS)) (fun (i : Nat) => ts.length - i) 0 (by repeat first | exact trivial | exact And.intro rfl trivial | refine And.intro rfl ?_ | refine And.intro (congrArg (fun z : Int => some (Value.int .i64 z)) (by omega)) ?_) ⟨Nat.zero_le _, rfl, hB, hL, h3⟩ ?_
  clear h3 hB hL
  rintro K4 i W5 ⟨hi, hv, hB, hL, h3⟩ hK4
  refine WC.seq fun K6 hK6 => ?_
  refine WC.region ?_
  refine WL.val (dx_lss rfl rfl rfl) rfl rfl ?_
  refine WL.nil ?_
  refine hK6 ?_
  refine WC.seq fun K7 hK7 => ?_
  refine WC.cond rfl (fun c8 => ?_) (fun c8 => ?_)
  ·
    replace c8 := of_decide_eq_true c8
    refine WC.skip ?_
    refine hK7 ?_
    refine WC.seq fun K9 hK9 => ?_
    refine WC.block ?_
    refine WC.seq fun K10 hK10 => ?_
    refine WC.region ?_
    refine WL.val (dx_move rfl rfl) rfl rfl ?_
    refine WL.val (dx_assign rfl rfl) rfl rfl ?_
    refine WL.nil ?_
    refine hK10 ?_
    refine WC.seq fun K11 hK11 => ?_
    refine WC.region ?_
    refine WL.val (dx_move rfl rfl) rfl rfl ?_
    refine WL.val (dx_move rfl rfl) rfl rfl ?_
    refine WL.val (dx_move rfl rfl) rfl rfl ?_
    obtain ⟨r12, e13⟩ : ∃ x, ts[i]? = some x := ⟨_, List.getElem?_eq_getElem (by omega)⟩
    refine WL.get (dx_idxF i rfl ty_slice_23 rfl rfl h3 (by omega) (at_mapX e13)) rfl rfl ?_
    rintro u14 _ ⟨rfl, p15⟩
    refine WL.val (dx_loadP rfl ty_one_9 rfl p15) rfl rfl ?_
    refine WL.val (dx_eqlT rfl rfl rfl) rfl rfl ?_
    refine WL.nil ?_
    refine hK11 ?_
    refine WC.cond rfl (fun c16 => ?_) (fun c16 => ?_)
    ·
      replace c16 := of_decide_eq_true c16
      refine WC.seq fun K17 hK17 => ?_
      refine WC.region ?_
      refine WL.val (dx_move rfl rfl) rfl rfl ?_
      refine WL.val (dx_assign rfl rfl) rfl rfl ?_
      refine WL.nil ?_
      refine hK17 ?_
      refine WC.ret fun a_ ha_ => ?_
      exact hQ (cv_ret1 rfl (.tmp rfl) (by rw [hv, idxX_here e13 (decide_eq_true (by assumption))]) hB ha_)
    ·
      replace c16 := of_decide_eq_false c16
      refine WC.skip ?_
      refine hK9 ?_
      refine WC.region ?_
      refine WL.val (dx_add (r := (i : Int) + 1) rfl rfl rfl (wrap64_id (by omega))) rfl rfl ?_
      refine WL.val (dx_move rfl rfl) rfl rfl ?_
      refine WL.nil ?_
      exact hK4 (i + 1) ⟨(by omega), (by rw [hv]; exact idxX_step e13 (decide_eq_false (by assumption))), hB, hL, h3⟩ (by omega) (by repeat first | exact trivial | exact And.intro rfl trivial | refine And.intro rfl ?_ | refine And.intro (congrArg (fun z : Int => some (Value.int .i64 z)) (by omega)) ?_)
  ·
    replace c8 := of_decide_eq_false c8
    refine WC.exit ?_
    refine hK2 ?_
    refine WC.seq fun K18 hK18 => ?_
    refine WC.region ?_
    refine WL.val (dx_assign rfl rfl) rfl rfl ?_
    refine WL.nil ?_
    refine hK18 ?_
    refine WC.ret fun a_ ha_ => ?_
    exact hQ (cv_ret1 rfl (.tmp rfl) (by rw [hv, idxX_end (by omega)]) hB ha_)

set_option maxHeartbeats 1000000 in
theorem equalT_v (xs ys : List ByteArray) (sv sv2 : Value) (w : World) (L : List Nat) (hL : LL L w) (h1 : RdF 1 L w sv (xs.map eS)) (h2 : RdF 1 L w sv2 (ys.map eS)) : CV Try.prog 73 [sv, sv2] w fun v W => v = .bool (decide (xs = ys)) := by
  refine cv_enter (N := 26) (f := [(0, sv), (1, sv2)]) Try.func73 rfl rfl rfl rfl fun Q hQ hE => ?_
  have hB := Below.refl w.heap.size w
  have h1m : xs.length ≤ maxLen := by have := h1.len; rwa [List.length_map] at this
  unfold maxLen at h1m
  have h2m : ys.length ≤ maxLen := by have := h2.len; rwa [List.length_map] at this
  unfold maxLen at h2m
  refine WC.seq fun K1 hK1 => ?_
  refine WC.region ?_
  refine WL.val (dx_assign rfl rfl) rfl rfl ?_
  refine WL.nil ?_
  refine hK1 ?_
  refine WC.seq fun K2 hK2 => ?_
  refine WC.seq fun K3 hK3 => ?_
  refine WC.region ?_
  refine WL.val (dx_move rfl rfl) rfl rfl ?_
  refine WL.val (dx_lenFM rfl ty_slice_23 rfl h1) rfl rfl ?_
  refine WL.val (dx_move rfl rfl) rfl rfl ?_
  refine WL.val (dx_lenFM rfl ty_slice_23 rfl h2) rfl rfl ?_
  refine WL.val (dx_neq rfl rfl rfl) rfl rfl ?_
  refine WL.nil ?_
  refine hK3 ?_
  refine WC.cond rfl (fun c4 => ?_) (fun c4 => ?_)
  ·
    replace c4 := bnot_t c4
    replace c4 := of_decide_eq_false c4
    refine WC.seq fun K5 hK5 => ?_
    refine WC.region ?_
    refine WL.val (dx_assign rfl rfl) rfl rfl ?_
    refine WL.nil ?_
    refine hK5 ?_
    refine WC.ret fun a_ ha_ => ?_
    exact hQ (cv_ret1 rfl (.tmp rfl) (by rw [decide_eq_false (fun e => by subst e; omega)]) hB ha_)
  ·
    replace c4 := bnot_f c4
    replace c4 := of_decide_eq_true c4
    refine WC.skip ?_
    refine hK2 ?_
    refine WC.seq fun K6 hK6 => ?_
    refine WC.seq fun K7 hK7 => ?_
    refine WC.region ?_
    refine WL.val (dx_move rfl rfl) rfl rfl ?_
    refine WL.val (dx_lenFM rfl ty_slice_23 rfl h1) rfl rfl ?_
    refine WL.val (dx_move rfl rfl) rfl rfl ?_
    refine WL.nil ?_
    refine hK7 ?_
    refine WC.block ?_
    refine WC.loop (fun (i : Nat) => [(0, sv), (1, sv2), (12, .int .i64 (xs.length : Int)), (13, .int .i64 (i : Int))]) (fun (i : Nat) W => i ≤ xs.length ∧ xs.take i = ys.take i ∧ Below w.heap.size w W ∧ LL (L) W ∧ RdF 1 (L) W sv (xs.map eS) ∧ RdF 1 (L) W sv2 (ys.map eS)) (fun (i : Nat) => xs.length - i) 0 (by repeat first | exact trivial | exact And.intro rfl trivial | refine And.intro rfl ?_ | refine And.intro (congrArg (fun z : Int => some (Value.int .i64 z)) (by omega)) ?_) ⟨Nat.zero_le _, rfl, hB, hL, h1, h2⟩ ?_
    clear h1 h2 hB hL
    rintro K8 i W9 ⟨hi, hv, hB, hL, h1, h2⟩ hK8
    refine WC.seq fun K10 hK10 => ?_
    refine WC.region ?_
    refine WL.val (dx_lss rfl rfl rfl) rfl rfl ?_
    refine WL.nil ?_
    refine hK10 ?_
    refine WC.seq fun K11 hK11 => ?_
    refine WC.cond rfl (fun c12 => ?_) (fun c12 => ?_)
    ·
      replace c12 := of_decide_eq_true c12
      refine WC.skip ?_
      refine hK11 ?_
      refine WC.seq fun K13 hK13 => ?_
      refine WC.block ?_
      refine WC.seq fun K14 hK14 => ?_
      refine WC.region ?_
      refine WL.val (dx_move rfl rfl) rfl rfl ?_
      refine WL.val (dx_assign rfl rfl) rfl rfl ?_
      refine WL.nil ?_
      refine hK14 ?_
      refine WC.seq fun K15 hK15 => ?_
      obtain ⟨r16, e17⟩ : ∃ x, xs[i]? = some x := ⟨_, List.getElem?_eq_getElem (by omega)⟩
      obtain ⟨r18, e19⟩ : ∃ x, ys[i]? = some x := ⟨_, List.getElem?_eq_getElem (by omega)⟩
      refine WC.drawM 8 [(some 16, .is (sv)), (some 17, .is (.int .i64 (i : Int))), (some 18, .by fun u W => PtR (L) W u [.string r16]), (some 19, .is (.string r16)), (some 20, .is (sv2)), (some 21, .is (.int .i64 (i : Int))), (some 22, .by fun u W => PtR (L) W u [.string r18]), (some 23, .is (.string r18))] [[], [], [0, 1], [2], [], [], [4, 5], [6]] (by kernel_rfl) (by kernel_rfl) (by kernel_rfl) (by kernel_rfl) (by kernel_rfl) (by kernel_rfl) (by kernel_rfl) ⟨fun _ _ _ hb h => h.below hb, fun _ _ _ hb h => h.below hb, trivial⟩ ?_ ?_
      ·
        refine DSteps.cons (fun Wd hd => ?_) ?_
        ·
          exact DV.dr (dx_move rfl rfl) ⟨Below.refl _ _, rfl⟩
        refine DSteps.cons (fun Wd hd => ?_) ?_
        ·
          exact DV.dr (dx_move rfl rfl) ⟨Below.refl _ _, rfl⟩
        refine DSteps.cons (fun Wd hd => ?_) ?_
        ·
          have h1 := h1.below hd
          exact (dx_idxF i rfl ty_slice_23 rfl rfl h1 (by omega) (at_mapX e17)).mono (fun v W' h => ⟨by rw [← h.1]; exact Below.refl _ _, by rw [← h.1]; exact h.2⟩)
        refine DSteps.cons (fun Wd hd => ?_) ?_
        ·
          intro u6_2 p6_2
          exact DV.dr (dx_loadP rfl ty_one_9 rfl p6_2) ⟨Below.refl _ _, rfl⟩
        refine DSteps.cons (fun Wd hd => ?_) ?_
        ·
          exact DV.dr (dx_move rfl rfl) ⟨Below.refl _ _, rfl⟩
        refine DSteps.cons (fun Wd hd => ?_) ?_
        ·
          exact DV.dr (dx_move rfl rfl) ⟨Below.refl _ _, rfl⟩
        refine DSteps.cons (fun Wd hd => ?_) ?_
        ·
          have h2 := h2.below hd
          exact (dx_idxF i rfl ty_slice_23 rfl rfl h2 (by omega) (at_mapX e19)).mono (fun v W' h => ⟨by rw [← h.1]; exact Below.refl _ _, by rw [← h.1]; exact h.2⟩)
        refine DSteps.cons (fun Wd hd => ?_) ?_
        ·
          intro u6_6 p6_6
          exact DV.dr (dx_loadP rfl ty_one_9 rfl p6_6) ⟨Below.refl _ _, rfl⟩
        exact trivial
      ·
        intro W20 b21
        intro u6_2 p6_2
        intro u6_6 p6_6
        replace h1 := h1.below b21
        replace h2 := h2.below b21
        replace hB := below_then hB b21
        replace hL := LL.below hL b21
        refine WL.val (dx_neqT rfl rfl rfl) rfl rfl ?_
        refine WL.nil ?_
        refine hK15 ?_
        refine WC.cond rfl (fun c22 => ?_) (fun c22 => ?_)
        ·
          replace c22 := bnot_t c22
          replace c22 := of_decide_eq_false c22
          refine WC.seq fun K23 hK23 => ?_
          refine WC.region ?_
          refine WL.val (dx_assign rfl rfl) rfl rfl ?_
          refine WL.nil ?_
          refine hK23 ?_
          refine WC.ret fun a_ ha_ => ?_
          exact hQ (cv_ret1 rfl (.tmp rfl) (by rw [decide_eq_false (fun e => by rw [e, e19] at e17; cases e17; exact absurd rfl (by assumption))]) hB ha_)
        ·
          replace c22 := bnot_f c22
          replace c22 := of_decide_eq_true c22
          refine WC.skip ?_
          refine hK13 ?_
          refine WC.region ?_
          refine WL.val (dx_add (r := (i : Int) + 1) rfl rfl rfl (wrap64_id (by omega))) rfl rfl ?_
          refine WL.val (dx_move rfl rfl) rfl rfl ?_
          refine WL.nil ?_
          exact hK8 (i + 1) ⟨(by omega), (by rw [List.take_add_one, List.take_add_one, hv, e17, e19, show r16 = r18 by first | assumption | exact Classical.not_not.1 (by assumption)]), hB, hL, h1, h2⟩ (by omega) (by repeat first | exact trivial | exact And.intro rfl trivial | refine And.intro rfl ?_ | refine And.intro (congrArg (fun z : Int => some (Value.int .i64 z)) (by omega)) ?_)
    ·
      replace c12 := of_decide_eq_false c12
      refine WC.exit ?_
      refine hK6 ?_
      refine WC.seq fun K24 hK24 => ?_
      refine WC.region ?_
      refine WL.val (dx_assign rfl rfl) rfl rfl ?_
      refine WL.nil ?_
      refine hK24 ?_
      refine WC.ret fun a_ ha_ => ?_
      exact hQ (cv_ret1 rfl (.tmp rfl) (by rw [List.take_of_length_le (by omega), List.take_of_length_le (by omega)] at hv; rw [decide_eq_true hv]) hB ha_)

set_option maxHeartbeats 1000000 in
theorem jGet_v (n : Nat) (t : Tr) (name : ByteArray) (w : World) (L : List Nat) (hL : LL L w) (ht : RdT (n + 1) L w t) : CV Try.prog 17 [.agg #[.int .i64 t.kind, .int .i64 t.num, .string t.text, t.nv, t.iv], .string name] w fun v W => v = .tuple #[.agg (encT (getT t name).1).toArray, .bool (getT t name).2] := by
  refine cv_enter (N := 30) (f := [(0, .agg #[.int .i64 t.kind, .int .i64 t.num, .string t.text, t.nv, t.iv]), (1, .string name)]) Try.func17 rfl rfl rfl rfl fun Q hQ hE => ?_
  have hB := Below.refl w.heap.size w
  refine WC.seq fun K1 hK1 => ?_
  obtain ⟨hnt, hit, hct⟩ := ht
  replace hct : RdTs n (L) w t.items := hct
  refine WC.region ?_
  refine WL.get (dx_box rfl rfl rfl) rfl rfl ?_
  rintro _ W2 ⟨rfl, k3, b4, z5⟩
  have l6 := hB.size
  replace hnt := hnt.more b4 (Nat.le_refl _)
  replace hit := hit.more b4 (Nat.le_refl _)
  replace hct := hct.more b4 (Nat.le_refl _)
  replace hB := below_then hB b4
  replace hL := LL.more hL z5
  refine WL.get (dx_alloc rfl ty_zero_26 rfl) rfl rfl ?_
  rintro _ W7 ⟨rfl, k8, b9, z10⟩
  have n11 : w.heap.size ≠ W2.heap.size := Nat.ne_of_lt k3.lt
  have l12 := hB.size
  replace hnt := hnt.more b9 (Nat.le_refl _)
  replace hit := hit.more b9 (Nat.le_refl _)
  replace hct := hct.more b9 (Nat.le_refl _)
  replace k3 := k3.below b9
  replace hB := below_then hB b9
  replace hL := LL.more hL z10
  refine WL.val (dx_assign rfl rfl) rfl rfl ?_
  refine WL.nil ?_
  refine hK1 ?_
  refine WC.seq fun K13 hK13 => ?_
  refine WC.seq fun K14 hK14 => ?_
  refine WC.region ?_
  refine WL.val (dx_fld (o1 := 0) rfl ty_fld_26_0_0 rfl rfl) rfl rfl ?_
  refine WL.val (dx_load rfl ty_one_3 rfl (k3.cell (k := 0) rfl)) rfl rfl ?_
  refine WL.val (dx_neq rfl rfl rfl) rfl rfl ?_
  refine WL.nil ?_
  refine hK14 ?_
  refine WC.cond rfl (fun c15 => ?_) (fun c15 => ?_)
  ·
    replace c15 := bnot_t c15
    replace c15 := of_decide_eq_false c15
    refine WC.seq fun K16 hK16 => ?_
    refine WC.region ?_
    refine WL.val (dx_build rfl rfl (built_of_O (cs := [.int .i64 0, .int .i64 0, .string ⟨#[]⟩, .slice none 0 0, .slice none 0 0]) (by kernel_rfl) oc_nil)) rfl rfl ?_
    refine WL.do (dx_store (cs' := [.int .i64 0, .int .i64 0, .string ⟨#[]⟩, .slice none 0 0, .slice none 0 0]) (vs := [.int .i64 0, .int .i64 0, .string ⟨#[]⟩, .slice none 0 0, .slice none 0 0]) rfl ty_size_26_5 rfl rfl rfl (oc_cons rfl (oc_cons rfl (oc_cons rfl (oc_cons rfl (oc_cons rfl oc_nil))))) k8 rfl (Nat.le_of_ble_eq_true rfl) rfl) rfl ?_
    rintro _ W17 ⟨k19, o18⟩
    replace k3 := k3.other o18 n11
    clear k8
    replace hnt := hnt.only o18 (.head _)
    replace hit := hit.only o18 (.head _)
    replace hct := hct.only o18 (.head _)
    replace hB := o18.below hB l12
    replace hL := LL.only hL o18
    refine WL.val (dx_assign rfl rfl) rfl rfl ?_
    refine WL.nil ?_
    refine hK16 ?_
    refine WC.ret fun a_ ha_ => ?_
    exact hQ (cv_ret2 rfl (.agg rfl ty_agg_26_5 k19.range rfl) (.tmp rfl) (by have e : getT t name = (noT, false) := (by unfold getT; rw [if_neg (by rintro ⟨q1, q2, q3⟩; first | (simp_all; done) | omega)]); rw [e] <;> rfl) hB ha_)
  ·
    replace c15 := bnot_f c15
    replace c15 := of_decide_eq_true c15
    refine WC.skip ?_
    refine hK13 ?_
    refine WC.seq fun K20 hK20 => ?_
    refine WC.region ?_
    refine WL.val (dx_fld (o1 := 3) rfl ty_fld_26_3_3 rfl rfl) rfl rfl ?_
    refine WL.val (dx_load rfl ty_one_23 rfl (k3.cell (k := 3) rfl)) rfl rfl ?_
    refine WL.val (dx_move rfl rfl) rfl rfl ?_
    refine WL.get (dx_cv rfl Try.func41 rfl rfl rfl (indexT_v t.names name _ W7 _ hL hnt)) rfl rfl ?_
    rintro _ W22 ⟨rfl, b21⟩
    replace hnt := hnt.below b21
    replace hit := hit.below b21
    replace hct := hct.below b21
    replace k3 := k3.below b21
    replace k8 := k8.below b21
    replace hB := below_then hB b21
    replace hL := LL.below hL b21
    refine WL.val (dx_assign rfl rfl) rfl rfl ?_
    refine WL.nil ?_
    refine hK20 ?_
    refine WC.seq fun K23 hK23 => ?_
    refine WC.seq fun K24 hK24 => ?_
    refine WC.region ?_
    refine WL.val (dx_move rfl rfl) rfl rfl ?_
    refine WL.val (dx_lss rfl rfl rfl) rfl rfl ?_
    refine WL.val (dx_move rfl rfl) rfl rfl ?_
    refine WL.split 17 rfl (fun g25 => ?_) (fun g25 => ?_)
    ·
      replace g25 := of_decide_eq_true g25
      refine WL.off rfl rfl rfl ?_
      refine WL.off rfl rfl rfl ?_
      refine WL.off rfl rfl rfl ?_
      refine WL.off rfl rfl rfl ?_
      refine WL.off rfl rfl rfl ?_
      refine WL.val (dx_pick rfl rfl rfl) rfl rfl ?_
      refine WL.nil ?_
      refine hK24 ?_
      refine WC.condT rfl ?_
      refine WC.seq fun K26 hK26 => ?_
      refine WC.region ?_
      refine WL.val (dx_build rfl rfl (built_of_O (cs := [.int .i64 0, .int .i64 0, .string ⟨#[]⟩, .slice none 0 0, .slice none 0 0]) (by kernel_rfl) oc_nil)) rfl rfl ?_
      refine WL.do (dx_store (cs' := [.int .i64 0, .int .i64 0, .string ⟨#[]⟩, .slice none 0 0, .slice none 0 0]) (vs := [.int .i64 0, .int .i64 0, .string ⟨#[]⟩, .slice none 0 0, .slice none 0 0]) rfl ty_size_26_5 rfl rfl rfl (oc_cons rfl (oc_cons rfl (oc_cons rfl (oc_cons rfl (oc_cons rfl oc_nil))))) k8 rfl (Nat.le_of_ble_eq_true rfl) rfl) rfl ?_
      rintro _ W27 ⟨k29, o28⟩
      replace k3 := k3.other o28 n11
      clear k8
      replace hnt := hnt.only o28 (.head _)
      replace hit := hit.only o28 (.head _)
      replace hct := hct.only o28 (.head _)
      replace hB := o28.below hB l12
      replace hL := LL.only hL o28
      refine WL.val (dx_assign rfl rfl) rfl rfl ?_
      refine WL.nil ?_
      refine hK26 ?_
      refine WC.ret fun a_ ha_ => ?_
      exact hQ (cv_ret2 rfl (.agg rfl ty_agg_26_5 k29.range rfl) (.tmp rfl) (by have e : getT t name = (noT, false) := (by unfold getT; rw [if_neg (by rintro ⟨q1, q2, q3⟩; first | (simp_all; done) | omega)]); rw [e] <;> rfl) hB ha_)
    ·
      replace g25 := of_decide_eq_false g25
      refine WL.val (dx_move rfl rfl) rfl rfl ?_
      refine WL.val (dx_fld (o1 := 4) rfl ty_fld_26_4_4 rfl rfl) rfl rfl ?_
      refine WL.val (dx_load rfl ty_one_24 rfl (k3.cell (k := 4) rfl)) rfl rfl ?_
      refine WL.val (dx_lenFM rfl ty_slice_24 rfl hit) rfl rfl ?_
      refine WL.val (dx_geq rfl rfl rfl) rfl rfl ?_
      refine WL.val (dx_pick rfl rfl rfl) rfl rfl ?_
      refine WL.nil ?_
      refine hK24 ?_
      refine WC.cond rfl (fun c30 => ?_) (fun c30 => ?_)
      ·
        replace c30 := of_decide_eq_true c30
        refine WC.seq fun K31 hK31 => ?_
        refine WC.region ?_
        refine WL.val (dx_build rfl rfl (built_of_O (cs := [.int .i64 0, .int .i64 0, .string ⟨#[]⟩, .slice none 0 0, .slice none 0 0]) (by kernel_rfl) oc_nil)) rfl rfl ?_
        refine WL.do (dx_store (cs' := [.int .i64 0, .int .i64 0, .string ⟨#[]⟩, .slice none 0 0, .slice none 0 0]) (vs := [.int .i64 0, .int .i64 0, .string ⟨#[]⟩, .slice none 0 0, .slice none 0 0]) rfl ty_size_26_5 rfl rfl rfl (oc_cons rfl (oc_cons rfl (oc_cons rfl (oc_cons rfl (oc_cons rfl oc_nil))))) k8 rfl (Nat.le_of_ble_eq_true rfl) rfl) rfl ?_
        rintro _ W32 ⟨k34, o33⟩
        replace k3 := k3.other o33 n11
        clear k8
        replace hnt := hnt.only o33 (.head _)
        replace hit := hit.only o33 (.head _)
        replace hct := hct.only o33 (.head _)
        replace hB := o33.below hB l12
        replace hL := LL.only hL o33
        refine WL.val (dx_assign rfl rfl) rfl rfl ?_
        refine WL.nil ?_
        refine hK31 ?_
        refine WC.ret fun a_ ha_ => ?_
        exact hQ (cv_ret2 rfl (.agg rfl ty_agg_26_5 k34.range rfl) (.tmp rfl) (by have e : getT t name = (noT, false) := (by unfold getT; rw [if_neg (by rintro ⟨q1, q2, q3⟩; first | (simp_all; done) | omega)]); rw [e] <;> rfl) hB ha_)
      ·
        replace c30 := of_decide_eq_false c30
        refine WC.skip ?_
        refine hK23 ?_
        refine WC.seq fun K35 hK35 => ?_
        obtain ⟨k0, hk0⟩ : ∃ k : Nat, idxX (fun x => decide (name = x)) t.names 0 = (k : Int) := ⟨(idxX (fun x => decide (name = x)) t.names 0).toNat, (Int.toNat_of_nonneg (by omega)).symm⟩
        have hkl : k0 < t.items.length := by omega
        obtain ⟨r0, hr0⟩ : ∃ x, t.items[k0]? = some x := ⟨_, List.getElem?_eq_getElem hkl⟩
        have hrr := hct r0 (List.mem_of_getElem? hr0)
        have hon0 := hrr.oc
        refine WC.region ?_
        refine WL.val (dx_fld (o1 := 4) rfl ty_fld_26_4_4 rfl rfl) rfl rfl ?_
        refine WL.val (dx_load rfl ty_one_24 rfl (k3.cell (k := 4) rfl)) rfl rfl ?_
        refine WL.val (dx_move rfl rfl) rfl rfl ?_
        refine WL.get (dx_idxF k0 rfl ty_slice_24 rfl rfl hit (by omega) (at_mapX hr0)) rfl rfl ?_
        rintro u36 _ ⟨rfl, p37⟩
        refine WL.val (dx_loadPN rfl ty_agg_26_5 rfl p37 rfl) rfl rfl ?_
        refine WL.do (dx_storeW (vs := encT r0) rfl ty_size_26_5 rfl rfl rfl hrr.oc k8 rfl rfl) rfl ?_
        rintro _ W38 ⟨k40, o39⟩
        replace k3 := k3.other o39 n11
        clear k8
        replace hnt := hnt.only o39 (.head _)
        replace hit := hit.only o39 (.head _)
        replace hct := hct.only o39 (.head _)
        replace hrr := hrr.only o39 (.head _)
        replace p37 := p37.only o39 (.head _)
        replace hB := o39.below hB l12
        replace hL := LL.only hL o39
        refine WL.val (dx_assign rfl rfl) rfl rfl ?_
        refine WL.nil ?_
        refine hK35 ?_
        refine WC.ret fun a_ ha_ => ?_
        exact hQ (cv_ret2 rfl (.agg rfl ty_agg_26_5 k40.range rfl) (.tmp rfl) (by have e : getT t name = (r0, true) := (by unfold getT; rw [if_pos ⟨by assumption, by omega, by omega⟩, hk0, Int.toNat_natCast, hr0]; rfl); rw [e] <;> rfl) hB ha_)

abbrev SameAt (n : Nat) : Prop := ∀ (p q : Tr) (u1 u2 : Value) (w : World) (L : List Nat), LL L w → RdT n L w p → RdT n L w q → PtR L w u1 (encT p) → PtR L w u2 (encT q) → CV Try.prog 45 [u1, u2] w fun x W => x = .bool (eqJ p.er q.er)
set_option maxHeartbeats 2000000 in
theorem same_step (n : Nat) (ih : SameAt n) (p q : Tr) (u1 u2 : Value) (w : World) (L : List Nat) (hL : LL L w) (htp : RdT (n + 1) L w p) (htq : RdT (n + 1) L w q) (hup : PtR L w u1 (encT p)) (huq : PtR L w u2 (encT q)) : CV Try.prog 45 [u1, u2] w fun v W => v = .bool (eqJ p.er q.er) := by
  refine cv_enter (N := 83) (f := [(0, u1), (1, u2)]) Try.func45 rfl rfl rfl rfl fun Q hQ hE => ?_
  have hB := Below.refl w.heap.size w
  refine WC.seq fun K1 hK1 => ?_
  obtain ⟨hnp, hip, hcp⟩ := htp
  replace hcp : RdTs n (L) w p.items := hcp
  obtain ⟨hnq, hiq, hcq⟩ := htq
  replace hcq : RdTs n (L) w q.items := hcq
  have hil0 := hip.len
  rw [List.length_map] at hil0
  unfold maxLen at hil0
  refine WC.region ?_
  refine WL.val (dx_assign rfl rfl) rfl rfl ?_
  refine WL.nil ?_
  refine hK1 ?_
  refine WC.seq fun K2 hK2 => ?_
  refine WC.seq fun K3 hK3 => ?_
  obtain ⟨b4, hb4⟩ : ∃ b, b = (!(decide (p.kind = q.kind))) := ⟨_, rfl⟩
  obtain ⟨b5, hb5⟩ : ∃ b, b = (b4 || (!(decide (p.num = q.num)))) := ⟨_, rfl⟩
  refine WC.drawM 31 [(some 6, .is (u1)), (some 7, .is (u1)), (some 8, .by fun u W => PtR (L) W u [.int .i64 p.kind]), (some 9, .is (.int .i64 p.kind)), (some 10, .is (u2)), (some 11, .is (u2)), (some 12, .by fun u W => PtR (L) W u [.int .i64 q.kind]), (some 13, .is (.int .i64 q.kind)), (some 14, .is (.bool (!(decide (p.kind = q.kind))))), (some 15, .is (.bool b4)), (some 16, .is (bif b4 then undef else u1)), (some 17, .is (bif b4 then undef else u1)), (some 18, .by fun u W => b4 = false → PtR (L) W u [.int .i64 p.num]), (some 19, .is (bif b4 then undef else .int .i64 p.num)), (some 20, .is (bif b4 then undef else u2)), (some 21, .is (bif b4 then undef else u2)), (some 22, .by fun u W => b4 = false → PtR (L) W u [.int .i64 q.num]), (some 23, .is (bif b4 then undef else .int .i64 q.num)), (some 24, .is (bif b4 then undef else .bool (!(decide (p.num = q.num))))), (some 25, .is (.bool (b4 || (!(decide (p.num = q.num)))))), (some 26, .is (.bool b5)), (some 27, .is (bif b5 then undef else u1)), (some 28, .is (bif b5 then undef else u1)), (some 29, .by fun u W => b5 = false → PtR (L) W u [.string p.text]), (some 30, .is (bif b5 then undef else .string p.text)), (some 31, .is (bif b5 then undef else u2)), (some 32, .is (bif b5 then undef else u2)), (some 33, .by fun u W => b5 = false → PtR (L) W u [.string q.text]), (some 34, .is (bif b5 then undef else .string q.text)), (some 35, .is (bif b5 then undef else .bool (!(decide (p.text = q.text))))), (some 36, .is (.bool (b5 || (!(decide (p.text = q.text))))))] [[], [0], [1], [2], [], [4], [5], [6], [3, 7], [8], [9], [10, 9], [11, 9], [12, 9], [9], [14, 9], [15, 9], [16, 9], [13, 17, 9], [9, 18], [19, 9], [20], [21, 20], [22, 20], [23, 20], [20], [25, 20], [26, 20], [27, 20], [24, 28, 20], [20, 29]] (by kernel_rfl) (by kernel_rfl) (by kernel_rfl) (by kernel_rfl) (by kernel_rfl) (by kernel_rfl) (by kernel_rfl) ⟨fun _ _ _ hb h => h.below hb, fun _ _ _ hb h => h.below hb, fun _ _ _ hb h g => (h g).below hb, fun _ _ _ hb h g => (h g).below hb, fun _ _ _ hb h g => (h g).below hb, fun _ _ _ hb h g => (h g).below hb, trivial⟩ ?_ ?_
  ·
    refine DSteps.cons (fun Wd hd => ?_) ?_
    ·
      exact DV.dr (dx_move rfl rfl) ⟨Below.refl _ _, rfl⟩
    refine DSteps.cons (fun Wd hd => ?_) ?_
    ·
      have hup := hup.below hd
      exact DV.dr (dx_nilP rfl rfl hup) ⟨Below.refl _ _, rfl⟩
    refine DSteps.cons (fun Wd hd => ?_) ?_
    ·
      have hup := hup.below hd
      exact (dx_fldP 1 rfl ty_fld_26_0_0 rfl hup (cs' := [.int .i64 p.kind]) rfl (Nat.succ_pos _)).mono (fun v W' h => ⟨by rw [← h.1]; exact Below.refl _ _, by rw [← h.1]; exact h.2⟩)
    refine DSteps.cons (fun Wd hd => ?_) ?_
    ·
      intro u1_2 p1_2
      exact DV.dr (dx_loadP rfl ty_one_3 rfl p1_2) ⟨Below.refl _ _, rfl⟩
    refine DSteps.cons (fun Wd hd => ?_) ?_
    ·
      exact DV.dr (dx_move rfl rfl) ⟨Below.refl _ _, rfl⟩
    refine DSteps.cons (fun Wd hd => ?_) ?_
    ·
      have huq := huq.below hd
      exact DV.dr (dx_nilP rfl rfl huq) ⟨Below.refl _ _, rfl⟩
    refine DSteps.cons (fun Wd hd => ?_) ?_
    ·
      have huq := huq.below hd
      exact (dx_fldP 1 rfl ty_fld_26_0_0 rfl huq (cs' := [.int .i64 q.kind]) rfl (Nat.succ_pos _)).mono (fun v W' h => ⟨by rw [← h.1]; exact Below.refl _ _, by rw [← h.1]; exact h.2⟩)
    refine DSteps.cons (fun Wd hd => ?_) ?_
    ·
      intro u1_6 p1_6
      exact DV.dr (dx_loadP rfl ty_one_3 rfl p1_6) ⟨Below.refl _ _, rfl⟩
    refine DSteps.cons (fun Wd hd => ?_) ?_
    ·
      exact DV.dr (dx_neq rfl rfl rfl) ⟨Below.refl _ _, rfl⟩
    refine DSteps.cons (fun Wd hd => ?_) ?_
    ·
      exact DV.dr (dx_move rfl rfl) ⟨Below.refl _ _, by rw [hb4]; rfl⟩
    refine DSteps.cons (fun Wd hd => ?_) ?_
    ·
      cases b4
      ·
        exact DV.dr (dx_move rfl rfl) ⟨Below.refl _ _, rfl⟩
      ·
        exact DV.dr (dv_off rfl) ⟨Below.refl _ _, rfl⟩
    refine DSteps.cons (fun Wd hd => ?_) ?_
    ·
      cases b4
      ·
        have hup := hup.below hd
        exact DV.dr (dx_nilP rfl rfl hup) ⟨Below.refl _ _, rfl⟩
      ·
        exact DV.dr (dv_off rfl) ⟨Below.refl _ _, rfl⟩
    refine DSteps.cons (fun Wd hd => ?_) ?_
    ·
      cases b4
      ·
        have hup := hup.below hd
        exact (dx_fldP 1 rfl ty_fld_26_1_1 rfl hup (cs' := [.int .i64 p.num]) rfl (Nat.succ_pos _)).mono (fun v W' h => ⟨by rw [← h.1]; exact Below.refl _ _, fun _ => by rw [← h.1]; exact h.2⟩)
      ·
        exact DV.dr (dv_off rfl) ⟨Below.refl _ _, fun h => by cases h⟩
    refine DSteps.cons (fun Wd hd => ?_) ?_
    ·
      intro u1_12 p1_12
      cases b4
      ·
        replace p1_12 := p1_12 rfl
        exact DV.dr (dx_loadP rfl ty_one_3 rfl p1_12) ⟨Below.refl _ _, rfl⟩
      ·
        exact DV.dr (dv_off rfl) ⟨Below.refl _ _, rfl⟩
    refine DSteps.cons (fun Wd hd => ?_) ?_
    ·
      cases b4
      ·
        exact DV.dr (dx_move rfl rfl) ⟨Below.refl _ _, rfl⟩
      ·
        exact DV.dr (dv_off rfl) ⟨Below.refl _ _, rfl⟩
    refine DSteps.cons (fun Wd hd => ?_) ?_
    ·
      cases b4
      ·
        have huq := huq.below hd
        exact DV.dr (dx_nilP rfl rfl huq) ⟨Below.refl _ _, rfl⟩
      ·
        exact DV.dr (dv_off rfl) ⟨Below.refl _ _, rfl⟩
    refine DSteps.cons (fun Wd hd => ?_) ?_
    ·
      cases b4
      ·
        have huq := huq.below hd
        exact (dx_fldP 1 rfl ty_fld_26_1_1 rfl huq (cs' := [.int .i64 q.num]) rfl (Nat.succ_pos _)).mono (fun v W' h => ⟨by rw [← h.1]; exact Below.refl _ _, fun _ => by rw [← h.1]; exact h.2⟩)
      ·
        exact DV.dr (dv_off rfl) ⟨Below.refl _ _, fun h => by cases h⟩
    refine DSteps.cons (fun Wd hd => ?_) ?_
    ·
      intro u1_16 p1_16
      cases b4
      ·
        replace p1_16 := p1_16 rfl
        exact DV.dr (dx_loadP rfl ty_one_3 rfl p1_16) ⟨Below.refl _ _, rfl⟩
      ·
        exact DV.dr (dv_off rfl) ⟨Below.refl _ _, rfl⟩
    refine DSteps.cons (fun Wd hd => ?_) ?_
    ·
      cases b4
      ·
        exact DV.dr (dx_neq rfl rfl rfl) ⟨Below.refl _ _, rfl⟩
      ·
        exact DV.dr (dv_off rfl) ⟨Below.refl _ _, rfl⟩
    refine DSteps.cons (fun Wd hd => ?_) ?_
    ·
      cases b4
      ·
        exact DV.dr (dx_pick rfl rfl rfl) ⟨Below.refl _ _, rfl⟩
      ·
        exact DV.dr (dx_pick rfl rfl rfl) ⟨Below.refl _ _, rfl⟩
    refine DSteps.cons (fun Wd hd => ?_) ?_
    ·
      exact DV.dr (dx_move rfl rfl) ⟨Below.refl _ _, by rw [hb5]; rfl⟩
    refine DSteps.cons (fun Wd hd => ?_) ?_
    ·
      cases b5
      ·
        exact DV.dr (dx_move rfl rfl) ⟨Below.refl _ _, rfl⟩
      ·
        exact DV.dr (dv_off rfl) ⟨Below.refl _ _, rfl⟩
    refine DSteps.cons (fun Wd hd => ?_) ?_
    ·
      cases b5
      ·
        have hup := hup.below hd
        exact DV.dr (dx_nilP rfl rfl hup) ⟨Below.refl _ _, rfl⟩
      ·
        exact DV.dr (dv_off rfl) ⟨Below.refl _ _, rfl⟩
    refine DSteps.cons (fun Wd hd => ?_) ?_
    ·
      cases b5
      ·
        have hup := hup.below hd
        exact (dx_fldP 1 rfl ty_fld_26_2_2 rfl hup (cs' := [.string p.text]) rfl (Nat.succ_pos _)).mono (fun v W' h => ⟨by rw [← h.1]; exact Below.refl _ _, fun _ => by rw [← h.1]; exact h.2⟩)
      ·
        exact DV.dr (dv_off rfl) ⟨Below.refl _ _, fun h => by cases h⟩
    refine DSteps.cons (fun Wd hd => ?_) ?_
    ·
      intro u1_23 p1_23
      cases b5
      ·
        replace p1_23 := p1_23 rfl
        exact DV.dr (dx_loadP rfl ty_one_9 rfl p1_23) ⟨Below.refl _ _, rfl⟩
      ·
        exact DV.dr (dv_off rfl) ⟨Below.refl _ _, rfl⟩
    refine DSteps.cons (fun Wd hd => ?_) ?_
    ·
      cases b5
      ·
        exact DV.dr (dx_move rfl rfl) ⟨Below.refl _ _, rfl⟩
      ·
        exact DV.dr (dv_off rfl) ⟨Below.refl _ _, rfl⟩
    refine DSteps.cons (fun Wd hd => ?_) ?_
    ·
      cases b5
      ·
        have huq := huq.below hd
        exact DV.dr (dx_nilP rfl rfl huq) ⟨Below.refl _ _, rfl⟩
      ·
        exact DV.dr (dv_off rfl) ⟨Below.refl _ _, rfl⟩
    refine DSteps.cons (fun Wd hd => ?_) ?_
    ·
      cases b5
      ·
        have huq := huq.below hd
        exact (dx_fldP 1 rfl ty_fld_26_2_2 rfl huq (cs' := [.string q.text]) rfl (Nat.succ_pos _)).mono (fun v W' h => ⟨by rw [← h.1]; exact Below.refl _ _, fun _ => by rw [← h.1]; exact h.2⟩)
      ·
        exact DV.dr (dv_off rfl) ⟨Below.refl _ _, fun h => by cases h⟩
    refine DSteps.cons (fun Wd hd => ?_) ?_
    ·
      intro u1_27 p1_27
      cases b5
      ·
        replace p1_27 := p1_27 rfl
        exact DV.dr (dx_loadP rfl ty_one_9 rfl p1_27) ⟨Below.refl _ _, rfl⟩
      ·
        exact DV.dr (dv_off rfl) ⟨Below.refl _ _, rfl⟩
    refine DSteps.cons (fun Wd hd => ?_) ?_
    ·
      cases b5
      ·
        exact DV.dr (dx_neqT rfl rfl rfl) ⟨Below.refl _ _, rfl⟩
      ·
        exact DV.dr (dv_off rfl) ⟨Below.refl _ _, rfl⟩
    refine DSteps.cons (fun Wd hd => ?_) ?_
    ·
      cases b5
      ·
        exact DV.dr (dx_pick rfl rfl rfl) ⟨Below.refl _ _, rfl⟩
      ·
        exact DV.dr (dx_pick rfl rfl rfl) ⟨Below.refl _ _, rfl⟩
    exact trivial
  ·
    intro W6 b7
    intro u1_2 p1_2
    intro u1_6 p1_6
    intro _ _
    intro _ _
    intro _ _
    intro _ _
    replace hup := hup.below b7
    replace huq := huq.below b7
    replace hnp := hnp.below b7
    replace hip := hip.below b7
    replace hcp := hcp.below b7
    replace hnq := hnq.below b7
    replace hiq := hiq.below b7
    replace hcq := hcq.below b7
    replace hB := below_then hB b7
    replace hL := LL.below hL b7
    refine WL.nil ?_
    refine hK3 ?_
    refine WC.cond rfl (fun c8 => ?_) (fun c8 => ?_)
    ·
      refine WC.seq fun K9 hK9 => ?_
      refine WC.region ?_
      refine WL.val (dx_assign rfl rfl) rfl rfl ?_
      refine WL.nil ?_
      refine hK9 ?_
      refine WC.ret fun a_ ha_ => ?_
      exact hQ (cv_ret1 rfl (.tmp rfl) (by rw [eqJ_f (fun e => by obtain ⟨e1, e2, e3, e4, _⟩ := er_parts e; have e5 := er_len e; simp_all)]) hB ha_)
    ·
      obtain ⟨g10, g11⟩ := bor_f c8
      replace g10 := bvar_f g10
      replace g11 := bnot_f g11
      replace g11 := of_decide_eq_true g11
      refine WC.skip ?_
      refine hK2 ?_
      refine WC.seq fun K12 hK12 => ?_
      refine WC.seq fun K13 hK13 => ?_
      obtain ⟨b14, hb14⟩ : ∃ b, b = (!(decide ((p.items.length : Int) = (q.items.length : Int)))) := ⟨_, rfl⟩
      refine WC.drawM 23 [(some 37, .is (u1)), (some 38, .is (u1)), (some 39, .by fun u W => PtR (L) W u [p.iv]), (some 40, .is (p.iv)), (some 41, .is (.int .i64 (p.items.length : Int))), (some 42, .is (u2)), (some 43, .is (u2)), (some 44, .by fun u W => PtR (L) W u [q.iv]), (some 45, .is (q.iv)), (some 46, .is (.int .i64 (q.items.length : Int))), (some 47, .is (.bool (!(decide ((p.items.length : Int) = (q.items.length : Int)))))), (some 48, .is (.bool b14)), (some 49, .is (bif b14 then undef else u1)), (some 50, .is (bif b14 then undef else u1)), (some 51, .by fun u W => b14 = false → PtR (L) W u [p.nv]), (some 52, .is (bif b14 then undef else p.nv)), (some 53, .is (bif b14 then undef else u2)), (some 54, .is (bif b14 then undef else u2)), (some 55, .by fun u W => b14 = false → PtR (L) W u [q.nv]), (some 56, .is (bif b14 then undef else q.nv)), (some 57, .is (bif b14 then undef else .bool (decide (p.names = q.names)))), (some 58, .is (bif b14 then undef else .bool (!(decide (p.names = q.names))))), (some 59, .is (.bool (b14 || (!(decide (p.names = q.names))))))] [[], [0], [1], [2], [3], [], [5], [6], [7], [8], [4, 9], [10], [11], [12, 11], [13, 11], [14, 11], [11], [16, 11], [17, 11], [18, 11], [15, 19, 11, 11], [20, 11], [11, 21]] (by kernel_rfl) (by kernel_rfl) (by kernel_rfl) (by kernel_rfl) (by kernel_rfl) (by kernel_rfl) (by kernel_rfl) ⟨fun _ _ _ hb h => h.below hb, fun _ _ _ hb h => h.below hb, fun _ _ _ hb h g => (h g).below hb, fun _ _ _ hb h g => (h g).below hb, trivial⟩ ?_ ?_
      ·
        refine DSteps.cons (fun Wd hd => ?_) ?_
        ·
          exact DV.dr (dx_move rfl rfl) ⟨Below.refl _ _, rfl⟩
        refine DSteps.cons (fun Wd hd => ?_) ?_
        ·
          have hup := hup.below hd
          exact DV.dr (dx_nilP rfl rfl hup) ⟨Below.refl _ _, rfl⟩
        refine DSteps.cons (fun Wd hd => ?_) ?_
        ·
          have hup := hup.below hd
          exact (dx_fldP 1 rfl ty_fld_26_4_4 rfl hup (cs' := [p.iv]) rfl (Nat.succ_pos _)).mono (fun v W' h => ⟨by rw [← h.1]; exact Below.refl _ _, by rw [← h.1]; exact h.2⟩)
        refine DSteps.cons (fun Wd hd => ?_) ?_
        ·
          intro u3_2 p3_2
          exact DV.dr (dx_loadP rfl ty_one_24 rfl p3_2) ⟨Below.refl _ _, rfl⟩
        refine DSteps.cons (fun Wd hd => ?_) ?_
        ·
          have hip := hip.below hd
          exact DV.dr (dx_lenFM rfl ty_slice_24 rfl hip) ⟨Below.refl _ _, rfl⟩
        refine DSteps.cons (fun Wd hd => ?_) ?_
        ·
          exact DV.dr (dx_move rfl rfl) ⟨Below.refl _ _, rfl⟩
        refine DSteps.cons (fun Wd hd => ?_) ?_
        ·
          have huq := huq.below hd
          exact DV.dr (dx_nilP rfl rfl huq) ⟨Below.refl _ _, rfl⟩
        refine DSteps.cons (fun Wd hd => ?_) ?_
        ·
          have huq := huq.below hd
          exact (dx_fldP 1 rfl ty_fld_26_4_4 rfl huq (cs' := [q.iv]) rfl (Nat.succ_pos _)).mono (fun v W' h => ⟨by rw [← h.1]; exact Below.refl _ _, by rw [← h.1]; exact h.2⟩)
        refine DSteps.cons (fun Wd hd => ?_) ?_
        ·
          intro u3_7 p3_7
          exact DV.dr (dx_loadP rfl ty_one_24 rfl p3_7) ⟨Below.refl _ _, rfl⟩
        refine DSteps.cons (fun Wd hd => ?_) ?_
        ·
          have hiq := hiq.below hd
          exact DV.dr (dx_lenFM rfl ty_slice_24 rfl hiq) ⟨Below.refl _ _, rfl⟩
        refine DSteps.cons (fun Wd hd => ?_) ?_
        ·
          exact DV.dr (dx_neq rfl rfl rfl) ⟨Below.refl _ _, rfl⟩
        refine DSteps.cons (fun Wd hd => ?_) ?_
        ·
          exact DV.dr (dx_move rfl rfl) ⟨Below.refl _ _, by rw [hb14]; rfl⟩
        refine DSteps.cons (fun Wd hd => ?_) ?_
        ·
          cases b14
          ·
            exact DV.dr (dx_move rfl rfl) ⟨Below.refl _ _, rfl⟩
          ·
            exact DV.dr (dv_off rfl) ⟨Below.refl _ _, rfl⟩
        refine DSteps.cons (fun Wd hd => ?_) ?_
        ·
          cases b14
          ·
            have hup := hup.below hd
            exact DV.dr (dx_nilP rfl rfl hup) ⟨Below.refl _ _, rfl⟩
          ·
            exact DV.dr (dv_off rfl) ⟨Below.refl _ _, rfl⟩
        refine DSteps.cons (fun Wd hd => ?_) ?_
        ·
          cases b14
          ·
            have hup := hup.below hd
            exact (dx_fldP 1 rfl ty_fld_26_3_3 rfl hup (cs' := [p.nv]) rfl (Nat.succ_pos _)).mono (fun v W' h => ⟨by rw [← h.1]; exact Below.refl _ _, fun _ => by rw [← h.1]; exact h.2⟩)
          ·
            exact DV.dr (dv_off rfl) ⟨Below.refl _ _, fun h => by cases h⟩
        refine DSteps.cons (fun Wd hd => ?_) ?_
        ·
          intro u3_14 p3_14
          cases b14
          ·
            replace p3_14 := p3_14 rfl
            exact DV.dr (dx_loadP rfl ty_one_23 rfl p3_14) ⟨Below.refl _ _, rfl⟩
          ·
            exact DV.dr (dv_off rfl) ⟨Below.refl _ _, rfl⟩
        refine DSteps.cons (fun Wd hd => ?_) ?_
        ·
          cases b14
          ·
            exact DV.dr (dx_move rfl rfl) ⟨Below.refl _ _, rfl⟩
          ·
            exact DV.dr (dv_off rfl) ⟨Below.refl _ _, rfl⟩
        refine DSteps.cons (fun Wd hd => ?_) ?_
        ·
          cases b14
          ·
            have huq := huq.below hd
            exact DV.dr (dx_nilP rfl rfl huq) ⟨Below.refl _ _, rfl⟩
          ·
            exact DV.dr (dv_off rfl) ⟨Below.refl _ _, rfl⟩
        refine DSteps.cons (fun Wd hd => ?_) ?_
        ·
          cases b14
          ·
            have huq := huq.below hd
            exact (dx_fldP 1 rfl ty_fld_26_3_3 rfl huq (cs' := [q.nv]) rfl (Nat.succ_pos _)).mono (fun v W' h => ⟨by rw [← h.1]; exact Below.refl _ _, fun _ => by rw [← h.1]; exact h.2⟩)
          ·
            exact DV.dr (dv_off rfl) ⟨Below.refl _ _, fun h => by cases h⟩
        refine DSteps.cons (fun Wd hd => ?_) ?_
        ·
          intro u3_18 p3_18
          cases b14
          ·
            replace p3_18 := p3_18 rfl
            exact DV.dr (dx_loadP rfl ty_one_23 rfl p3_18) ⟨Below.refl _ _, rfl⟩
          ·
            exact DV.dr (dv_off rfl) ⟨Below.refl _ _, rfl⟩
        refine DSteps.cons (fun Wd hd => ?_) ?_
        ·
          cases b14
          ·
            have hnp := hnp.below hd
            have hnq := hnq.below hd
            exact DR.mono (dx_cv rfl Try.func73 rfl rfl rfl (equalT_v p.names q.names _ _ Wd _ (LL.below hL hd) hnp hnq)) (fun v W' ⟨h, hb⟩ => ⟨hb, (by rw [h]; exact rfl)⟩)
          ·
            exact DV.dr (dv_off rfl) ⟨Below.refl _ _, rfl⟩
        refine DSteps.cons (fun Wd hd => ?_) ?_
        ·
          cases b14
          ·
            exact DV.dr (dx_not rfl rfl) ⟨Below.refl _ _, rfl⟩
          ·
            exact DV.dr (dv_off rfl) ⟨Below.refl _ _, rfl⟩
        refine DSteps.cons (fun Wd hd => ?_) ?_
        ·
          cases b14
          ·
            exact DV.dr (dx_pick rfl rfl rfl) ⟨Below.refl _ _, rfl⟩
          ·
            exact DV.dr (dx_pick rfl rfl rfl) ⟨Below.refl _ _, rfl⟩
        exact trivial
      ·
        intro W15 b16
        intro u3_2 p3_2
        intro u3_7 p3_7
        intro _ _
        intro _ _
        replace hup := hup.below b16
        replace huq := huq.below b16
        replace hnp := hnp.below b16
        replace hip := hip.below b16
        replace hcp := hcp.below b16
        replace hnq := hnq.below b16
        replace hiq := hiq.below b16
        replace hcq := hcq.below b16
        replace hB := below_then hB b16
        replace hL := LL.below hL b16
        refine WL.nil ?_
        refine hK13 ?_
        refine WC.cond rfl (fun c17 => ?_) (fun c17 => ?_)
        ·
          refine WC.seq fun K18 hK18 => ?_
          refine WC.region ?_
          refine WL.val (dx_assign rfl rfl) rfl rfl ?_
          refine WL.nil ?_
          refine hK18 ?_
          refine WC.ret fun a_ ha_ => ?_
          exact hQ (cv_ret1 rfl (.tmp rfl) (by rw [eqJ_f (fun e => by obtain ⟨e1, e2, e3, e4, _⟩ := er_parts e; have e5 := er_len e; simp_all)]) hB ha_)
        ·
          obtain ⟨g19, g20⟩ := bor_f c17
          replace g19 := bvar_f g19
          replace g20 := bnot_f g20
          replace g20 := of_decide_eq_true g20
          refine WC.skip ?_
          refine hK12 ?_
          refine WC.seq fun K21 hK21 => ?_
          refine WC.seq fun K22 hK22 => ?_
          have hln : p.items.length = q.items.length := by first | omega | (simp_all; omega) | simp_all
          refine WC.region ?_
          refine WL.val (dx_move rfl rfl) rfl rfl ?_
          refine WL.val (dx_nilP rfl rfl hup) rfl rfl ?_
          refine WL.get (dx_fldP 1 rfl ty_fld_26_4_4 rfl hup (cs' := [p.iv]) rfl (Nat.succ_pos _)) rfl rfl ?_
          rintro u23 _ ⟨rfl, p24⟩
          refine WL.val (dx_loadP rfl ty_one_24 rfl p24) rfl rfl ?_
          refine WL.val (dx_lenFM rfl ty_slice_24 rfl hip) rfl rfl ?_
          refine WL.val (dx_move rfl rfl) rfl rfl ?_
          refine WL.nil ?_
          refine hK22 ?_
          refine WC.block ?_
          refine WC.loop (fun (i : Nat) => [(0, u1), (1, u2), (64, .int .i64 (p.items.length : Int)), (65, .int .i64 (i : Int))]) (fun (i : Nat) W => i ≤ p.items.length ∧ (∀ k x y, k < i → p.items[k]? = some x → q.items[k]? = some y → x.er = y.er) ∧ Below w.heap.size w W ∧ LL (L) W ∧ PtR (L) W u1 (encT p) ∧ PtR (L) W u2 (encT q) ∧ RdF 1 (L) W p.nv (p.names.map eS) ∧ RdF 5 (L) W p.iv (p.items.map encT) ∧ RdTs n (L) W p.items ∧ RdF 1 (L) W q.nv (q.names.map eS) ∧ RdF 5 (L) W q.iv (q.items.map encT) ∧ RdTs n (L) W q.items) (fun (i : Nat) => p.items.length - i) 0 (by repeat first | exact trivial | exact And.intro rfl trivial | refine And.intro rfl ?_ | refine And.intro (congrArg (fun z : Int => some (Value.int .i64 z)) (by omega)) ?_) ⟨Nat.zero_le _, (fun k x y hk => by omega), hB, hL, hup, huq, hnp, hip, hcp, hnq, hiq, hcq⟩ ?_
          clear hup huq hnp hip hcp hnq hiq hcq hB hL
          rintro K25 i W26 ⟨hi, hv, hB, hL, hup, huq, hnp, hip, hcp, hnq, hiq, hcq⟩ hK25
          refine WC.seq fun K27 hK27 => ?_
          refine WC.region ?_
          refine WL.val (dx_lss rfl rfl rfl) rfl rfl ?_
          refine WL.nil ?_
          refine hK27 ?_
          refine WC.seq fun K28 hK28 => ?_
          refine WC.cond rfl (fun c29 => ?_) (fun c29 => ?_)
          ·
            replace c29 := of_decide_eq_true c29
            refine WC.skip ?_
            refine hK28 ?_
            refine WC.seq fun K30 hK30 => ?_
            refine WC.block ?_
            refine WC.seq fun K31 hK31 => ?_
            refine WC.region ?_
            refine WL.val (dx_move rfl rfl) rfl rfl ?_
            refine WL.val (dx_assign rfl rfl) rfl rfl ?_
            refine WL.nil ?_
            refine hK31 ?_
            refine WC.seq fun K32 hK32 => ?_
            obtain ⟨r33, e34⟩ : ∃ x, p.items[i]? = some x := ⟨_, List.getElem?_eq_getElem (by omega)⟩
            obtain ⟨r35, e36⟩ : ∃ x, q.items[i]? = some x := ⟨_, List.getElem?_eq_getElem (by omega)⟩
            refine WC.drawM 12 [(some 68, .is (u1)), (some 69, .is (u1)), (some 70, .by fun u W => PtR (L) W u [p.iv]), (some 71, .is (p.iv)), (some 72, .is (.int .i64 (i : Int))), (some 73, .by fun u W => PtR (L) W u (encT r33)), (some 74, .is (u2)), (some 75, .is (u2)), (some 76, .by fun u W => PtR (L) W u [q.iv]), (some 77, .is (q.iv)), (some 78, .is (.int .i64 (i : Int))), (some 79, .by fun u W => PtR (L) W u (encT r35))] [[], [0], [1], [2], [], [3, 4], [], [6], [7], [8], [], [9, 10]] (by kernel_rfl) (by kernel_rfl) (by kernel_rfl) (by kernel_rfl) (by kernel_rfl) (by kernel_rfl) (by kernel_rfl) ⟨fun _ _ _ hb h => h.below hb, fun _ _ _ hb h => h.below hb, fun _ _ _ hb h => h.below hb, fun _ _ _ hb h => h.below hb, trivial⟩ ?_ ?_
            ·
              refine DSteps.cons (fun Wd hd => ?_) ?_
              ·
                exact DV.dr (dx_move rfl rfl) ⟨Below.refl _ _, rfl⟩
              refine DSteps.cons (fun Wd hd => ?_) ?_
              ·
                have hup := hup.below hd
                exact DV.dr (dx_nilP rfl rfl hup) ⟨Below.refl _ _, rfl⟩
              refine DSteps.cons (fun Wd hd => ?_) ?_
              ·
                have hup := hup.below hd
                exact (dx_fldP 1 rfl ty_fld_26_4_4 rfl hup (cs' := [p.iv]) rfl (Nat.succ_pos _)).mono (fun v W' h => ⟨by rw [← h.1]; exact Below.refl _ _, by rw [← h.1]; exact h.2⟩)
              refine DSteps.cons (fun Wd hd => ?_) ?_
              ·
                intro u8_2 p8_2
                exact DV.dr (dx_loadP rfl ty_one_24 rfl p8_2) ⟨Below.refl _ _, rfl⟩
              refine DSteps.cons (fun Wd hd => ?_) ?_
              ·
                exact DV.dr (dx_move rfl rfl) ⟨Below.refl _ _, rfl⟩
              refine DSteps.cons (fun Wd hd => ?_) ?_
              ·
                have hip := hip.below hd
                exact (dx_idxF i rfl ty_slice_24 rfl rfl hip (by omega) (at_mapX e34)).mono (fun v W' h => ⟨by rw [← h.1]; exact Below.refl _ _, by rw [← h.1]; exact h.2⟩)
              refine DSteps.cons (fun Wd hd => ?_) ?_
              ·
                exact DV.dr (dx_move rfl rfl) ⟨Below.refl _ _, rfl⟩
              refine DSteps.cons (fun Wd hd => ?_) ?_
              ·
                have huq := huq.below hd
                exact DV.dr (dx_nilP rfl rfl huq) ⟨Below.refl _ _, rfl⟩
              refine DSteps.cons (fun Wd hd => ?_) ?_
              ·
                have huq := huq.below hd
                exact (dx_fldP 1 rfl ty_fld_26_4_4 rfl huq (cs' := [q.iv]) rfl (Nat.succ_pos _)).mono (fun v W' h => ⟨by rw [← h.1]; exact Below.refl _ _, by rw [← h.1]; exact h.2⟩)
              refine DSteps.cons (fun Wd hd => ?_) ?_
              ·
                intro u8_8 p8_8
                exact DV.dr (dx_loadP rfl ty_one_24 rfl p8_8) ⟨Below.refl _ _, rfl⟩
              refine DSteps.cons (fun Wd hd => ?_) ?_
              ·
                exact DV.dr (dx_move rfl rfl) ⟨Below.refl _ _, rfl⟩
              refine DSteps.cons (fun Wd hd => ?_) ?_
              ·
                have hiq := hiq.below hd
                exact (dx_idxF i rfl ty_slice_24 rfl rfl hiq (by omega) (at_mapX e36)).mono (fun v W' h => ⟨by rw [← h.1]; exact Below.refl _ _, by rw [← h.1]; exact h.2⟩)
              exact trivial
            ·
              intro W37 b38
              intro u8_2 p8_2
              intro u8_5 p8_5
              intro u8_8 p8_8
              intro u8_11 p8_11
              replace hup := hup.below b38
              replace huq := huq.below b38
              replace hnp := hnp.below b38
              replace hip := hip.below b38
              replace hcp := hcp.below b38
              replace hnq := hnq.below b38
              replace hiq := hiq.below b38
              replace hcq := hcq.below b38
              replace hB := below_then hB b38
              replace hL := LL.below hL b38
              refine WL.get (dx_cv rfl Try.func45 rfl rfl rfl (ih r33 r35 _ _ W37 _ hL (hcp r33 (List.mem_of_getElem? e34)) (hcq r35 (List.mem_of_getElem? e36)) p8_5 p8_11)) rfl rfl ?_
              rintro _ W40 ⟨rfl, b39⟩
              replace hup := hup.below b39
              replace huq := huq.below b39
              replace hnp := hnp.below b39
              replace hip := hip.below b39
              replace hcp := hcp.below b39
              replace hnq := hnq.below b39
              replace hiq := hiq.below b39
              replace hcq := hcq.below b39
              replace p8_2 := p8_2.below b39
              replace p8_5 := p8_5.below b39
              replace p8_8 := p8_8.below b39
              replace p8_11 := p8_11.below b39
              replace hB := below_then hB b39
              replace hL := LL.below hL b39
              refine WL.val (dx_not rfl rfl) rfl rfl ?_
              refine WL.nil ?_
              refine hK32 ?_
              refine WC.cond rfl (fun c41 => ?_) (fun c41 => ?_)
              ·
                replace c41 := bnot_t c41
                refine WC.seq fun K42 hK42 => ?_
                refine WC.region ?_
                refine WL.val (dx_assign rfl rfl) rfl rfl ?_
                refine WL.nil ?_
                refine hK42 ?_
                refine WC.ret fun a_ ha_ => ?_
                exact hQ (cv_ret1 rfl (.tmp rfl) (by rw [eqJ_f (fun e => by have hce := er_item e e34 e36; have := eqJ_t hce; simp_all)]) hB ha_)
              ·
                replace c41 := bnot_f c41
                refine WC.skip ?_
                refine hK30 ?_
                refine WC.region ?_
                refine WL.val (dx_add (r := (i : Int) + 1) rfl rfl rfl (wrap64_id (by omega))) rfl rfl ?_
                refine WL.val (dx_move rfl rfl) rfl rfl ?_
                refine WL.nil ?_
                have hce : r33.er = r35.er := Classical.byContradiction fun hn_ => by have := eqJ_f hn_; simp_all
                exact hK25 (i + 1) ⟨(by omega), (fun k x y hk hx hy => by rcases Nat.lt_or_ge k i with hl | hl; exact hv k x y hl hx hy; obtain rfl : k = i := (by omega); rw [e34] at hx; rw [e36] at hy; cases hx; cases hy; exact hce), hB, hL, hup, huq, hnp, hip, hcp, hnq, hiq, hcq⟩ (by omega) (by repeat first | exact trivial | exact And.intro rfl trivial | refine And.intro rfl ?_ | refine And.intro (congrArg (fun z : Int => some (Value.int .i64 z)) (by omega)) ?_)
          ·
            replace c29 := of_decide_eq_false c29
            refine WC.exit ?_
            refine hK21 ?_
            refine WC.seq fun K43 hK43 => ?_
            refine WC.region ?_
            refine WL.val (dx_assign rfl rfl) rfl rfl ?_
            refine WL.nil ?_
            refine hK43 ?_
            refine WC.ret fun a_ ha_ => ?_
            exact hQ (cv_ret1 rfl (.tmp rfl) (by rw [eqJ_t (er_eq (by first | assumption | simp_all) (by first | assumption | simp_all) (by first | assumption | simp_all) (by first | assumption | simp_all) hln (fun k c d hc hd => hv k c d (by have := (List.getElem?_eq_some_iff.1 hc).1; omega) hc hd))]) hB ha_)

theorem same_all : ∀ n, SameAt n
  | 0 => fun p q _ _ _ _ _ h => h.elim
  | n + 1 => fun p q u1 u2 w L hL h1 h2 h3 h4 => same_step n (same_all n) p q u1 u2 w L hL h1 h2 h3 h4
set_option maxHeartbeats 1000000 in
theorem jSame_v (n : Nat) (p q : Tr) (w : World) (L : List Nat) (hL : LL L w) (htp : RdT (n + 1) L w p) (htq : RdT (n + 1) L w q)  (hzp : SzT 1000000 (n + 1) p) (hzq : SzT 1000000 (n + 1) q) : CV Try.prog 22 [.agg #[.int .i64 p.kind, .int .i64 p.num, .string p.text, p.nv, p.iv], .agg #[.int .i64 q.kind, .int .i64 q.num, .string q.text, q.nv, q.iv]] w fun v W => v = .bool (rightJ upB 12 p.er && (rightJ upB 12 q.er && eqJ p.er q.er)) := by
  refine cv_enter (N := 14) (f := [(0, .agg #[.int .i64 p.kind, .int .i64 p.num, .string p.text, p.nv, p.iv]), (1, .agg #[.int .i64 q.kind, .int .i64 q.num, .string q.text, q.nv, q.iv])]) Try.func22 rfl rfl rfl rfl fun Q hQ hE => ?_
  have hB := Below.refl w.heap.size w
  refine WC.seq fun K1 hK1 => ?_
  obtain ⟨hnp, hip, hcp⟩ := htp
  replace hcp : RdTs n (L) w p.items := hcp
  obtain ⟨hnq, hiq, hcq⟩ := htq
  replace hcq : RdTs n (L) w q.items := hcq
  refine WC.region ?_
  refine WL.get (dx_box rfl rfl rfl) rfl rfl ?_
  rintro _ W2 ⟨rfl, k3, b4, z5⟩
  have l6 := hB.size
  replace hnp := hnp.more b4 (Nat.le_refl _)
  replace hip := hip.more b4 (Nat.le_refl _)
  replace hcp := hcp.more b4 (Nat.le_refl _)
  replace hnq := hnq.more b4 (Nat.le_refl _)
  replace hiq := hiq.more b4 (Nat.le_refl _)
  replace hcq := hcq.more b4 (Nat.le_refl _)
  replace hB := below_then hB b4
  replace hL := LL.more hL z5
  refine WL.get (dx_box rfl rfl rfl) rfl rfl ?_
  rintro _ W7 ⟨rfl, k8, b9, z10⟩
  have n11 : w.heap.size ≠ W2.heap.size := Nat.ne_of_lt k3.lt
  have l12 := hB.size
  replace hnp := hnp.more b9 (Nat.le_refl _)
  replace hip := hip.more b9 (Nat.le_refl _)
  replace hcp := hcp.more b9 (Nat.le_refl _)
  replace hnq := hnq.more b9 (Nat.le_refl _)
  replace hiq := hiq.more b9 (Nat.le_refl _)
  replace hcq := hcq.more b9 (Nat.le_refl _)
  replace k3 := k3.below b9
  replace hB := below_then hB b9
  replace hL := LL.more hL z10
  refine WL.val (dx_assign rfl rfl) rfl rfl ?_
  refine WL.nil ?_
  refine hK1 ?_
  refine WC.seq fun K13 hK13 => ?_
  refine WC.region ?_
  refine WL.val (dx_loadN rfl ty_agg_26_5 rfl k3.range rfl) rfl rfl ?_
  refine WL.get (dx_cv rfl Try.func15 rfl rfl rfl (jRight_v n p W7 _ hL (show RdT (n + 1) (W2.heap.size :: w.heap.size :: L) W7 p from ⟨hnp, hip, hcp⟩) hzp)) rfl rfl ?_
  rintro _ W15 ⟨rfl, b14⟩
  replace hnp := hnp.below b14
  replace hip := hip.below b14
  replace hcp := hcp.below b14
  replace hnq := hnq.below b14
  replace hiq := hiq.below b14
  replace hcq := hcq.below b14
  replace k3 := k3.below b14
  replace k8 := k8.below b14
  replace hB := below_then hB b14
  replace hL := LL.below hL b14
  refine WL.val (dx_move rfl rfl) rfl rfl ?_
  refine WL.split 7 rfl (fun g16 => ?_) (fun g16 => ?_)
  ·
    refine WL.val (dx_loadN rfl ty_agg_26_5 rfl k8.range rfl) rfl rfl ?_
    refine WL.get (dx_cv rfl Try.func15 rfl rfl rfl (jRight_v n q W15 _ hL (show RdT (n + 1) (W2.heap.size :: w.heap.size :: L) W15 q from ⟨hnq, hiq, hcq⟩) hzq)) rfl rfl ?_
    rintro _ W18 ⟨rfl, b17⟩
    replace hnp := hnp.below b17
    replace hip := hip.below b17
    replace hcp := hcp.below b17
    replace hnq := hnq.below b17
    replace hiq := hiq.below b17
    replace hcq := hcq.below b17
    replace k3 := k3.below b17
    replace k8 := k8.below b17
    replace hB := below_then hB b17
    replace hL := LL.below hL b17
    refine WL.val (dx_pick rfl rfl rfl) rfl rfl ?_
    refine WL.val (dx_move rfl rfl) rfl rfl ?_
    refine WL.split 11 rfl (fun g19 => ?_) (fun g19 => ?_)
    ·
      refine WL.get (dx_cv rfl Try.func45 rfl rfl rfl (same_all (n + 1) p q _ _ W18 [] (LL.nil _) ((show RdT (n + 1) (W2.heap.size :: w.heap.size :: L) W18 p from ⟨hnp, hip, hcp⟩).less (fun x hx => by cases hx)) ((show RdT (n + 1) (W2.heap.size :: w.heap.size :: L) W18 q from ⟨hnq, hiq, hcq⟩).less (fun x hx => by cases hx)) ⟨Nat.succ_pos _, w.heap.size, 0, rfl, by simp, k3.range⟩ ⟨Nat.succ_pos _, W2.heap.size, 0, rfl, by simp, k8.range⟩)) rfl rfl ?_
      rintro _ W21 ⟨rfl, b20⟩
      replace hnp := hnp.below b20
      replace hip := hip.below b20
      replace hcp := hcp.below b20
      replace hnq := hnq.below b20
      replace hiq := hiq.below b20
      replace hcq := hcq.below b20
      replace k3 := k3.below b20
      replace k8 := k8.below b20
      replace hB := below_then hB b20
      replace hL := LL.below hL b20
      refine WL.val (dx_pick rfl rfl rfl) rfl rfl ?_
      refine WL.val (dx_assign rfl rfl) rfl rfl ?_
      refine WL.nil ?_
      refine hK13 ?_
      refine WC.ret fun a_ ha_ => ?_
      exact hQ (cv_ret1 rfl (.tmp rfl) (by simp [*]) hB ha_)
    ·
      refine WL.off rfl rfl rfl ?_
      refine WL.val (dx_pick rfl rfl rfl) rfl rfl ?_
      refine WL.val (dx_assign rfl rfl) rfl rfl ?_
      refine WL.nil ?_
      refine hK13 ?_
      refine WC.ret fun a_ ha_ => ?_
      exact hQ (cv_ret1 rfl (.tmp rfl) (by simp [*]) hB ha_)
  ·
    refine WL.off rfl rfl rfl ?_
    refine WL.off rfl rfl rfl ?_
    refine WL.val (dx_pick rfl rfl rfl) rfl rfl ?_
    refine WL.val (dx_move rfl rfl) rfl rfl ?_
    refine WL.off rfl rfl rfl ?_
    refine WL.val (dx_pick rfl rfl rfl) rfl rfl ?_
    refine WL.val (dx_assign rfl rfl) rfl rfl ?_
    refine WL.nil ?_
    refine hK13 ?_
    refine WC.ret fun a_ ha_ => ?_
    exact hQ (cv_ret1 rfl (.tmp rfl) (by simp [*]) hB ha_)

end Go.Proofs.Ytpinidlfcifeeaa
namespace Go.Proofs.Ytpinidlfcifeeaa
open Go.RowKit
set_option linter.unusedVariables false
set_option linter.unusedSimpArgs false
/-- How many texts stand ahead of this one. -/
def lbT (x : ByteArray) : List ByteArray → Nat
  | [] => 0
  | a :: l => if sless a x = true then lbT x l + 1 else 0
abbrev Rises (l : List ByteArray) : Prop := l.Pairwise (fun a b => sless a b = true)
theorem lbT_le (x : ByteArray) : ∀ l : List ByteArray, lbT x l ≤ l.length
  | [] => Nat.le_refl _
  | a :: l => by
    unfold lbT
    have := lbT_le x l
    split
    · simpa using this
    · exact Nat.zero_le _
theorem lbT_eq {x : ByteArray} : ∀ {l : List ByteArray} {i : Nat}, i ≤ l.length → (∀ q a, q < i → l[q]? = some a → sless a x = true) → (∀ a, l[i]? = some a → sless a x = false) → lbT x l = i
  | [], i, hi, _, _ => by simp at hi; rw [hi]; rfl
  | a :: l, 0, _, _, h2 => by
    have := h2 a rfl
    unfold lbT
    rw [this]; rfl
  | a :: l, i + 1, hi, h1, h2 => by
    unfold lbT
    rw [if_pos (h1 0 a (Nat.succ_pos _) rfl)]
    rw [lbT_eq (i := i) (by simpa using hi) (fun q b hq hb => h1 (q + 1) b (by omega) (by simpa using hb)) (fun b hb => h2 b (by simpa using hb))]
/-- One more, at a place. -/
def insA {α : Type} (i : Nat) (x : α) (l : List α) : List α := l.take i ++ ([x] ++ l.drop i)
theorem insA_len {α : Type} {i : Nat} {x : α} {l : List α} (h : i ≤ l.length) : (insA i x l).length = l.length + 1 := by
  unfold insA
  rw [List.length_append, List.length_append, List.length_take, List.length_drop, List.length_singleton]
  omega
theorem insA_map {α β : Type} (f : α → β) (i : Nat) (x : α) (l : List α) : (insA i x l).map f = insA i (f x) (l.map f) := by
  unfold insA
  rw [List.map_append, List.map_append, List.map_take, List.map_drop]; rfl
theorem mem_insA {α : Type} {i : Nat} {x y : α} {l : List α} : y ∈ insA i x l ↔ y = x ∨ y ∈ l := by
  unfold insA
  rw [List.mem_append, List.mem_append, List.mem_singleton]
  constructor
  · rintro (h | h | h)
    · exact .inr (List.mem_of_mem_take h)
    · exact .inl h
    · exact .inr (List.mem_of_mem_drop h)
  · rintro (h | h)
    · exact .inr (.inl h)
    · rw [← List.take_append_drop i l, List.mem_append] at h
      rcases h with h | h
      · exact .inl h
      · exact .inr (.inr h)
theorem rises_less {l : List ByteArray} (h : Rises l) {i j : Nat} {a b : ByteArray} (hij : i < j) (ha : l[i]? = some a) (hb : l[j]? = some b) : sless a b = true := by
  obtain ⟨hi, rfl⟩ := List.getElem?_eq_some_iff.1 ha
  obtain ⟨hj, rfl⟩ := List.getElem?_eq_some_iff.1 hb
  exact List.pairwise_iff_getElem.1 h i j hi hj hij
/-- All ahead of a place are less, when the one there is. -/
theorem rises_ahead {l : List ByteArray} (h : Rises l) {x a b : ByteArray} {i q : Nat} (hq : q ≤ i) (ha : l[i]? = some a) (hx : sless a x = true) (hb : l[q]? = some b) : sless b x = true := by
  rcases Nat.lt_or_eq_of_le hq with h1 | rfl
  · exact sless_trans _ _ _ (rises_less h h1 hb ha) hx
  · rw [ha] at hb; cases hb; exact hx
theorem rises_behind {l : List ByteArray} (h : Rises l) {x a b : ByteArray} {i q : Nat} (hq : i ≤ q) (ha : l[i]? = some a) (hx : sless a x = false) (hb : l[q]? = some b) : sless b x = false := by
  rcases Nat.lt_or_eq_of_le hq with h1 | rfl
  · have := rises_less h h1 ha hb
    cases hbx : sless b x with
    | false => rfl
    | true => rw [sless_trans _ _ _ this hbx] at hx; cases hx
  · rw [ha] at hb; cases hb; exact hx
theorem lb_ahead {x : ByteArray} : ∀ {l : List ByteArray} {q : Nat} {a : ByteArray}, q < lbT x l → l[q]? = some a → sless a x = true
  | [], q, a, h, _ => by simp [lbT] at h
  | b :: l, q, a, h, ha => by
    unfold lbT at h
    split at h
    · rename_i hb
      cases q with
      | zero => simp at ha; rw [← ha]; exact hb
      | succ q => exact lb_ahead (l := l) (q := q) (by omega) (by simpa using ha)
    · omega
theorem lb_at {x : ByteArray} : ∀ {l : List ByteArray} {a : ByteArray}, l[lbT x l]? = some a → sless a x = false
  | [], a, h => by simp at h
  | b :: l, a, h => by
    unfold lbT at h
    split at h
    · exact lb_at (l := l) (by simpa using h)
    · rename_i hb
      simp at h
      rw [← h]
      exact Bool.not_eq_true _ ▸ hb
theorem rises_ins {x : ByteArray} {l : List ByteArray} (h : Rises l) (hn : l[lbT x l]? ≠ some x) : Rises (insA (lbT x l) x l) := by
  have e : l = l.take (lbT x l) ++ l.drop (lbT x l) := (List.take_append_drop _ _).symm
  have h' := h
  unfold Rises at h'
  rw [e, List.pairwise_append] at h'
  obtain ⟨h1, h2, h3⟩ := h'
  have hb : ∀ b ∈ l.drop (lbT x l), sless x b = true := fun b hb => by
    obtain ⟨q, hq, he⟩ := List.mem_iff_getElem.1 hb
    have hbq : l[lbT x l + q]? = some b := by rw [← List.getElem?_drop, List.getElem?_eq_getElem hq, he]
    have hlt : lbT x l < l.length := by rw [List.length_drop] at hq; omega
    have ha := List.getElem?_eq_getElem hlt
    have hf := rises_behind h (Nat.le_add_right _ q) ha (lb_at ha) hbq
    rcases sless_tri b x with ⟨p, _, _⟩ | ⟨_, p, _⟩ | rfl
    · rw [p] at hf; cases hf
    · exact p
    · have h0 : q = 0 := by
        rcases Nat.eq_zero_or_pos q with h0 | h0
        · exact h0
        · have := rises_less h (show lbT b l < lbT b l + q by omega) ha hbq
          rw [lb_at ha] at this; cases this
      rw [h0] at hbq
      exact absurd hbq hn
  unfold Rises insA
  rw [List.pairwise_append]
  refine ⟨h1, ?_, ?_⟩
  · rw [List.singleton_append, List.pairwise_cons]
    exact ⟨hb, h2⟩
  · intro a ha b hb'
    obtain ⟨q, hq, he⟩ := List.mem_iff_getElem.1 ha
    rw [List.length_take] at hq
    rw [List.getElem_take] at he
    have hax : sless a x = true := lb_ahead (l := l) (q := q) (by omega) (by rw [List.getElem?_eq_getElem (by omega), he])
    rw [List.singleton_append, List.mem_cons] at hb'
    rcases hb' with rfl | hb'
    · exact hax
    · exact sless_trans _ _ _ hax (hb b hb')
end Go.Proofs.Ytpinidlfcifeeaa
namespace Go.Proofs.Ytpinidlfcifeeaa
open Go.RowKit
set_option linter.unusedVariables false
set_option linter.unusedSimpArgs false
set_option maxRecDepth 8000

theorem del_tail {α : Type} {rs sp : List α} {i : Nat} (hi : i ≤ rs.length) : ((rs ++ sp).drop i).take (rs.length - i) = rs.drop i := by
  rw [List.drop_append_of_le_length hi, List.take_append_of_le_length (by rw [List.length_drop]; omega), List.take_of_length_le (by rw [List.length_drop]; omega)]
theorem ins_own_eq {s : Nat} {w : World} {rs vs tl : List (List Value)} {B i n c : Nat} (h : OwS s w (.slice (some ⟨B, 0, none⟩) (rs.take i ++ (vs ++ rs.drop i)).length ((rs.take i ++ (vs ++ rs.drop i)) ++ tl).length) (rs.take i ++ (vs ++ rs.drop i)) B) (hi : i ≤ rs.length) (hn : rs.length + vs.length = n) (hc : ((rs.take i ++ (vs ++ rs.drop i)) ++ tl).length = c) : OwS s w (.slice (some ⟨B, 0, none⟩) n c) (rs.take i ++ (vs ++ rs.drop i)) B := by
  have e : (rs.take i ++ (vs ++ rs.drop i)).length = n := by simp; omega
  rw [e, hc] at h
  exact h
theorem GrowB.new_or {B B' : Nat} {w w' : World} (h : GrowB B B' w w') : B' = B ∨ w.heap.size ≤ B' := h.new
set_option maxHeartbeats 1000000 in
theorem insertT_v (rs sp vs vp : List (List Value)) (i : Nat) (B C : Nat) (w : World) (L : List Nat) (hL : LL (B :: L) w) (hO : RwB 1 w B (rs ++ sp)) (hV : RwB 1 w C (vs ++ vp)) (hCB : C ≠ B) (hi : i ≤ rs.length) (hvs : vs ≠ []) (hsm : (rs.length + vs.length) * 16 ≤ 140737488355328) (hone : ∀ r ∈ rs, ∀ u ∈ r, u.oneCell' = true) (hvone : ∀ r ∈ vs, ∀ u ∈ r, u.oneCell' = true) : CW Try.prog 50 [.slice (some ⟨B, 0, none⟩) rs.length ((rs ++ sp).length), .int .i64 (i : Int), .slice (some ⟨C, 0, none⟩) vs.length ((vs ++ vp).length)] w B fun v W => ∃ B', OwS 1 W v (rs.take i ++ (vs ++ rs.drop i)) B' ∧ (B' = B ∨ w.heap.size ≤ B') := by
  refine cw_enter (N := 95) (f := [(0, .slice (some ⟨B, 0, none⟩) rs.length ((rs ++ sp).length)), (1, .int .i64 (i : Int)), (2, .slice (some ⟨C, 0, none⟩) vs.length ((vs ++ vp).length))]) Try.func50 rfl rfl rfl rfl fun Q hQ hE => ?_
  have hB := Chg.refl B w
  have hlen : (rs ++ sp).length = rs.length + sp.length := List.length_append
  have hm0 := List.length_pos_iff.2 hvs
  refine WC.seq fun K1 hK1 => ?_
  refine WC.region ?_
  refine WL.val (dx_assign rfl rfl) rfl rfl ?_
  refine WL.nil ?_
  refine hK1 ?_
  refine WC.seq fun K2 hK2 => ?_
  refine WC.region ?_
  refine WL.val (dx_move rfl rfl) rfl rfl ?_
  refine WL.val (dx_move rfl rfl) rfl rfl ?_
  refine WL.val (dx_slL i rfl ty_slice_23 rfl rfl rfl (by omega) (by omega)) rfl rfl ?_
  refine WL.nil ?_
  refine hK2 ?_
  refine WC.seq fun K3 hK3 => ?_
  refine WC.region ?_
  refine WL.val (dx_move rfl rfl) rfl rfl ?_
  refine WL.val (dx_len rfl Try.underlying23 rfl) rfl rfl ?_
  refine WL.val (dx_assign rfl rfl) rfl rfl ?_
  refine WL.nil ?_
  refine hK3 ?_
  refine WC.seq fun K4 hK4 => ?_
  refine WC.seq fun K5 hK5 => ?_
  refine WC.region ?_
  refine WL.val (dx_move rfl rfl) rfl rfl ?_
  refine WL.val (dx_eql rfl rfl rfl) rfl rfl ?_
  refine WL.nil ?_
  refine hK5 ?_
  refine WC.cond rfl (fun c6 => ?_) (fun c6 => ?_)
  ·
    replace c6 := of_decide_eq_true c6
    exfalso; omega
  ·
    replace c6 := of_decide_eq_false c6
    refine WC.skip ?_
    refine hK4 ?_
    refine WC.seq fun K7 hK7 => ?_
    refine WC.region ?_
    refine WL.val (dx_move rfl rfl) rfl rfl ?_
    refine WL.val (dx_len rfl Try.underlying23 rfl) rfl rfl ?_
    refine WL.val (dx_assign rfl rfl) rfl rfl ?_
    refine WL.nil ?_
    refine hK7 ?_
    refine WC.seq fun K8 hK8 => ?_
    refine WC.seq fun K9 hK9 => ?_
    refine WC.region ?_
    refine WL.val (dx_move rfl rfl) rfl rfl ?_
    refine WL.val (dx_move rfl rfl) rfl rfl ?_
    refine WL.val (dx_eql rfl rfl rfl) rfl rfl ?_
    refine WL.nil ?_
    refine hK9 ?_
    refine WC.cond rfl (fun c10 => ?_) (fun c10 => ?_)
    ·
      replace c10 := of_decide_eq_true c10
      refine WC.seq fun K11 hK11 => ?_
      refine WC.region ?_
      refine WL.val (dx_move rfl rfl) rfl rfl ?_
      refine WL.val (dx_move rfl rfl) rfl rfl ?_
      refine WL.get (dx_apO' (rs := rs) (news := vs) rfl ty_ap_23 rfl rfl hO.own (hV.rd (L := []) (by simp)) hvone (by unfold maxLen; omega) (by omega)) rfl rfl ?_
      rintro u16 W12 ⟨B13, k14, g15⟩
      replace hB := hB.grow g15 (.inl rfl)
      refine WL.val (dx_assign rfl rfl) rfl rfl ?_
      refine WL.nil ?_
      refine hK11 ?_
      refine WC.ret fun a_ ha_ => ?_
      exact hQ (cw_ret1 rfl (.tmp rfl) ⟨B13, (by have e : i = rs.length := (by omega); rw [e, List.take_length, List.drop_length, List.append_nil]; exact k14), g15.new_or⟩ hB ha_)
    ·
      replace c10 := of_decide_eq_false c10
      refine WC.skip ?_
      refine hK8 ?_
      refine WC.seq fun K17 hK17 => ?_
      refine WC.seq fun K18 hK18 => ?_
      refine WC.region ?_
      refine WL.val (dx_move rfl rfl) rfl rfl ?_
      refine WL.val (dx_move rfl rfl) rfl rfl ?_
      refine WL.val (dx_add (r := ((rs.length + vs.length : Nat) : Int)) rfl rfl rfl (by rw [wrap64_id (by omega)]; omega)) rfl rfl ?_
      refine WL.val (dx_move rfl rfl) rfl rfl ?_
      refine WL.val (dx_cap rfl Try.underlying23 rfl) rfl rfl ?_
      refine WL.val (dx_gtr rfl rfl rfl) rfl rfl ?_
      refine WL.nil ?_
      refine hK18 ?_
      refine WC.cond rfl (fun c19 => ?_) (fun c19 => ?_)
      ·
        replace c19 := of_decide_eq_true c19
        refine WC.seq fun K20 hK20 => ?_
        refine WC.region ?_
        refine WL.val (dx_move rfl rfl) rfl rfl ?_
        refine WL.val (dx_move rfl rfl) rfl rfl ?_
        refine WL.val (dx_slH i rfl ty_slice_23 rfl rfl rfl (by omega)) rfl rfl ?_
        refine WL.val (dx_move rfl rfl) rfl rfl ?_
        refine WL.val (dx_move rfl rfl) rfl rfl ?_
        refine WL.val (dx_add (r := ((rs.length + vs.length : Nat) : Int)) rfl rfl rfl (by rw [wrap64_id (by omega)]; omega)) rfl rfl ?_
        refine WL.val (dx_move rfl rfl) rfl rfl ?_
        refine WL.val (dx_sub (r := ((rs.length + vs.length - i : Nat) : Int)) rfl rfl rfl (by rw [wrap64_id (by omega)]; omega)) rfl rfl ?_
        refine WL.get (dx_apZ (rs.length + vs.length - i) (R := (rs ++ sp)) rfl ty_ap_23 Try.underlying3 rfl rfl rfl hO (by omega) (by omega) (by unfold maxLen; omega) (by omega)) rfl rfl ?_
        rintro _ W1 ⟨Z, rfl, hz1, hz2, kZ, bZ, zZ⟩
        have nB : B ≠ w.heap.size := Nat.ne_of_lt hO.lt
        have nC : C ≠ w.heap.size := Nat.ne_of_lt hV.lt
        replace hO := hO.below bZ
        replace hV := hV.below bZ
        replace hB := hB.thenB bZ
        replace hL := LL.more hL zZ
        have hz3 : Z.take i = rs.take i := (by rw [hz2]; exact List.take_append_of_le_length hi)
        have ez : i + (rs.length + vs.length - i) = rs.length + vs.length := (by omega)
        rw [ez] at hz1
        refine WL.val (dx_assign rfl rfl) rfl rfl ?_
        refine WL.nil ?_
        refine hK20 ?_
        refine WC.seq fun K21 hK21 => ?_
        refine WC.region ?_
        refine WL.val (dx_move rfl rfl) rfl rfl ?_
        refine WL.val (dx_move rfl rfl) rfl rfl ?_
        refine WL.val (dx_slL i rfl ty_slice_23 rfl rfl rfl (by omega) (by omega)) rfl rfl ?_
        refine WL.val (dx_move rfl rfl) rfl rfl ?_
        refine WL.get (dx_cpV (B := w.heap.size) (R := Z) (news := vs) (lo := i) (n := (i + (rs.length + vs.length - i) - i)) rfl ty_slice_23 rfl (fun hn => by rw [offV_in (n := (i + (rs.length + vs.length - i) - i)) hn (by omega)]; simp) rfl kZ (hV.rd (L := []) (by simp)) (fun r hr => hvone r (List.mem_of_mem_take hr)) (by omega)) rfl rfl ?_
        rintro _ W22 ⟨rfl, k23, o24⟩
        replace hB := hB.only o24 (.inr (Nat.le_refl _))
        replace hL := LL.only hL o24
        replace hO := hO.other o24 nB
        replace hV := hV.other o24 nC
        rw [List.take_of_length_le (l := vs) (by omega), show min vs.length (i + (rs.length + vs.length - i) - i) = vs.length by omega] at k23
        have l3 : (Z.take i ++ (vs ++ Z.drop (i + vs.length))).length = Z.length := (by simp; omega)
        have hg := ins_grow (vs := vs) hi hz1 hz3
        simp only at hg
        refine WL.nil ?_
        refine hK21 ?_
        refine WC.seq fun K25 hK25 => ?_
        refine WC.drawM 8 [(some 46, .is (.slice (some ⟨w.heap.size, 0, none⟩) (i + (rs.length + vs.length - i)) Z.length)), (some 47, .is (.int .i64 (i : Int))), (some 48, .is (.int .i64 (vs.length : Int))), (some 49, .is (.int .i64 ((i + vs.length : Nat) : Int))), (some 50, .is (.slice (some ⟨w.heap.size, (offV Z.length (i + vs.length) 0 1), none⟩) ((i + (rs.length + vs.length - i)) - (i + vs.length)) (Z.length - (i + vs.length)))), (some 51, .is (.slice (some ⟨B, 0, none⟩) rs.length ((rs ++ sp).length))), (some 52, .is (.int .i64 (i : Int))), (some 53, .is (.slice (some ⟨B, (offV ((rs ++ sp).length) i 0 1), none⟩) (rs.length - i) ((rs ++ sp).length - i)))] [[], [], [], [1, 2], [0, 3], [], [], [5, 6]] (by kernel_rfl) (by kernel_rfl) (by kernel_rfl) (by kernel_rfl) (by kernel_rfl) (by kernel_rfl) (by kernel_rfl) (by exact trivial) ?_ ?_
        ·
          refine DSteps.cons (fun Wd hd => ?_) ?_
          ·
            exact DV.dr (dx_move rfl rfl) ⟨Below.refl _ _, rfl⟩
          refine DSteps.cons (fun Wd hd => ?_) ?_
          ·
            exact DV.dr (dx_move rfl rfl) ⟨Below.refl _ _, rfl⟩
          refine DSteps.cons (fun Wd hd => ?_) ?_
          ·
            exact DV.dr (dx_move rfl rfl) ⟨Below.refl _ _, rfl⟩
          refine DSteps.cons (fun Wd hd => ?_) ?_
          ·
            exact DV.dr (dx_add (r := ((i + vs.length : Nat) : Int)) rfl rfl rfl (by rw [wrap64_id (by omega)]; omega)) ⟨Below.refl _ _, rfl⟩
          refine DSteps.cons (fun Wd hd => ?_) ?_
          ·
            exact DV.dr (dx_slL (i + vs.length) rfl ty_slice_23 rfl rfl rfl (by omega) (by omega)) ⟨Below.refl _ _, rfl⟩
          refine DSteps.cons (fun Wd hd => ?_) ?_
          ·
            exact DV.dr (dx_move rfl rfl) ⟨Below.refl _ _, rfl⟩
          refine DSteps.cons (fun Wd hd => ?_) ?_
          ·
            exact DV.dr (dx_move rfl rfl) ⟨Below.refl _ _, rfl⟩
          refine DSteps.cons (fun Wd hd => ?_) ?_
          ·
            exact DV.dr (dx_slL i rfl ty_slice_23 rfl rfl rfl (by omega) (by omega)) ⟨Below.refl _ _, rfl⟩
          exact trivial
        ·
          intro W26 b27
          replace hO := hO.below b27
          replace hV := hV.below b27
          replace k23 := k23.below b27
          replace hB := hB.thenB b27
          replace hL := LL.below hL b27
          refine WL.get (dx_cpV (B := w.heap.size) (R := (Z.take i ++ (vs ++ Z.drop (i + vs.length)))) (news := (((rs ++ sp).drop i).take (rs.length - i))) (lo := (i + vs.length)) (n := (i + (rs.length + vs.length - i) - (i + vs.length))) rfl ty_slice_23 rfl (fun hn => by rw [offV_in (n := (i + (rs.length + vs.length - i) - (i + vs.length))) hn (by omega)]; simp) rfl k23 (hO.part (L := []) (lo := i) (n := rs.length - i) (by simp) (fun hn => by rw [offV_in (n := rs.length - i) hn (by rw [hlen]; omega)]; simp) (by rw [hlen]; omega) (by rw [hlen]; omega)) (fun r hr => hone r (mem_tail hi (List.mem_of_mem_take hr))) (by omega)) rfl rfl ?_
          rintro _ W28 ⟨rfl, k29, o30⟩
          replace hB := hB.only o30 (.inr (Nat.le_refl _))
          replace hL := LL.only hL o30
          replace hO := hO.other o30 nB
          replace hV := hV.other o30 nC
          rw [show ((rs ++ sp).drop i).take (rs.length - i) = rs.drop i from del_tail hi] at k29
          rw [List.take_of_length_le (l := rs.drop i) (by rw [List.length_drop]; omega), List.length_drop, show min (rs.length - i) (i + (rs.length + vs.length - i) - (i + vs.length)) = rs.length - i by omega, hg] at k29
          have hown := k29.own
          refine WL.nil ?_
          refine hK25 ?_
          refine WC.seq fun K31 hK31 => ?_
          refine WC.region ?_
          refine WL.val (dx_move rfl rfl) rfl rfl ?_
          refine WL.val (dx_assign rfl rfl) rfl rfl ?_
          refine WL.nil ?_
          refine hK31 ?_
          refine WC.ret fun a_ ha_ => ?_
          exact hQ (cw_ret1 rfl (.tmp rfl) ⟨w.heap.size, ins_own_eq hown hi ez.symm (by simp; omega), .inr (Nat.le_refl _)⟩ hB ha_)
      ·
        replace c19 := of_decide_eq_false c19
        refine WC.skip ?_
        refine hK17 ?_
        refine WC.seq fun K32 hK32 => ?_
        refine WC.region ?_
        refine WL.val (dx_move rfl rfl) rfl rfl ?_
        refine WL.val (dx_move rfl rfl) rfl rfl ?_
        refine WL.val (dx_move rfl rfl) rfl rfl ?_
        refine WL.val (dx_add (r := ((rs.length + vs.length : Nat) : Int)) rfl rfl rfl (by rw [wrap64_id (by omega)]; omega)) rfl rfl ?_
        refine WL.val (dx_slH (rs.length + vs.length) rfl ty_slice_23 rfl rfl rfl (by omega)) rfl rfl ?_
        refine WL.val (dx_assign rfl rfl) rfl rfl ?_
        refine WL.nil ?_
        refine hK32 ?_
        refine WC.seq fun K33 hK33 => ?_
        refine WC.seq fun K34 hK34 => ?_
        refine WC.region ?_
        refine WL.val (dx_move rfl rfl) rfl rfl ?_
        refine WL.val (dx_move rfl rfl) rfl rfl ?_
        refine WL.val (dx_move rfl rfl) rfl rfl ?_
        refine WL.val (dx_move rfl rfl) rfl rfl ?_
        refine WL.val (dx_add (r := ((i + vs.length : Nat) : Int)) rfl rfl rfl (by rw [wrap64_id (by omega)]; omega)) rfl rfl ?_
        refine WL.val (dx_slL (i + vs.length) rfl ty_slice_23 rfl rfl rfl (by omega) (by omega)) rfl rfl ?_
        refine WL.val (dx_ovl (U := (rs ++ sp)) (V := (vs ++ vp)) (s := 1) (tR := 4) rfl Try.func76 (by kernel_rfl) (by kernel_rfl) (by kernel_rfl) (by kernel_rfl) ty_slice_23 rfl rfl hV hO hCB (by intro e; rw [e] at hlen; simp only [List.length_nil] at hlen; omega)) rfl rfl ?_
        refine WL.val (dx_not rfl rfl) rfl rfl ?_
        refine WL.nil ?_
        refine hK34 ?_
        refine WC.condT rfl ?_
        refine WC.seq fun K35 hK35 => ?_
        refine WC.drawM 8 [(some 69, .is (.slice (some ⟨B, 0, none⟩) (rs.length + vs.length) ((rs ++ sp).length))), (some 70, .is (.int .i64 (i : Int))), (some 71, .is (.int .i64 (vs.length : Int))), (some 72, .is (.int .i64 ((i + vs.length : Nat) : Int))), (some 73, .is (.slice (some ⟨B, (offV ((rs ++ sp).length) (i + vs.length) 0 1), none⟩) ((rs.length + vs.length) - (i + vs.length)) ((rs ++ sp).length - (i + vs.length)))), (some 74, .is (.slice (some ⟨B, 0, none⟩) (rs.length + vs.length) ((rs ++ sp).length))), (some 75, .is (.int .i64 (i : Int))), (some 76, .is (.slice (some ⟨B, (offV ((rs ++ sp).length) i 0 1), none⟩) ((rs.length + vs.length) - i) ((rs ++ sp).length - i)))] [[], [], [], [1, 2], [0, 3], [], [], [5, 6]] (by kernel_rfl) (by kernel_rfl) (by kernel_rfl) (by kernel_rfl) (by kernel_rfl) (by kernel_rfl) (by kernel_rfl) (by exact trivial) ?_ ?_
        ·
          refine DSteps.cons (fun Wd hd => ?_) ?_
          ·
            exact DV.dr (dx_move rfl rfl) ⟨Below.refl _ _, rfl⟩
          refine DSteps.cons (fun Wd hd => ?_) ?_
          ·
            exact DV.dr (dx_move rfl rfl) ⟨Below.refl _ _, rfl⟩
          refine DSteps.cons (fun Wd hd => ?_) ?_
          ·
            exact DV.dr (dx_move rfl rfl) ⟨Below.refl _ _, rfl⟩
          refine DSteps.cons (fun Wd hd => ?_) ?_
          ·
            exact DV.dr (dx_add (r := ((i + vs.length : Nat) : Int)) rfl rfl rfl (by rw [wrap64_id (by omega)]; omega)) ⟨Below.refl _ _, rfl⟩
          refine DSteps.cons (fun Wd hd => ?_) ?_
          ·
            exact DV.dr (dx_slL (i + vs.length) rfl ty_slice_23 rfl rfl rfl (by omega) (by omega)) ⟨Below.refl _ _, rfl⟩
          refine DSteps.cons (fun Wd hd => ?_) ?_
          ·
            exact DV.dr (dx_move rfl rfl) ⟨Below.refl _ _, rfl⟩
          refine DSteps.cons (fun Wd hd => ?_) ?_
          ·
            exact DV.dr (dx_move rfl rfl) ⟨Below.refl _ _, rfl⟩
          refine DSteps.cons (fun Wd hd => ?_) ?_
          ·
            exact DV.dr (dx_slL i rfl ty_slice_23 rfl rfl rfl (by omega) (by omega)) ⟨Below.refl _ _, rfl⟩
          exact trivial
        ·
          intro W36 b37
          replace hO := hO.below b37
          replace hV := hV.below b37
          replace hB := hB.thenB b37
          replace hL := LL.below hL b37
          refine WL.get (dx_cpV (B := B) (R := (rs ++ sp)) (news := (((rs ++ sp).drop i).take (rs.length + vs.length - i))) (lo := (i + vs.length)) (n := (rs.length + vs.length - (i + vs.length))) rfl ty_slice_23 rfl (fun hn => by rw [offV_in (n := (rs.length + vs.length - (i + vs.length))) hn (by omega)]; simp) rfl hO (hO.part (L := []) (lo := i) (n := rs.length + vs.length - i) (by simp) (fun hn => by rw [offV_in (n := rs.length + vs.length - i) hn (by omega)]; simp) (by omega) (by omega)) (fun r hr => hone r (mem_tail2 hi (by omega) (by omega) hr)) (by omega)) rfl rfl ?_
          rintro _ W38 ⟨rfl, k39, o40⟩
          replace hB := hB.only o40 (.inl rfl)
          replace hL := LL.only hL o40
          replace hV := hV.other o40 hCB
          have ll : (((rs ++ sp).drop i).take (rs.length + vs.length - i)).length = rs.length + vs.length - i := (by rw [List.length_take, List.length_drop]; omega)
          rw [ll, show min (rs.length + vs.length - i) (rs.length + vs.length - (i + vs.length)) = rs.length - i by omega, show rs.length + vs.length - (i + vs.length) = rs.length - i by omega] at k39
          have l3 : ((rs ++ sp).take (i + vs.length) ++ ((((rs ++ sp).drop i).take (rs.length + vs.length - i)).take (rs.length - i) ++ (rs ++ sp).drop (i + vs.length + (rs.length - i)))).length = (rs ++ sp).length := (by simp; omega)
          have hg := ins_room (vs := vs) (sp := sp) hi (by omega)
          simp only at hg
          refine WL.nil ?_
          refine hK35 ?_
          refine WC.seq fun K41 hK41 => ?_
          refine WC.region ?_
          refine WL.val (dx_move rfl rfl) rfl rfl ?_
          refine WL.val (dx_move rfl rfl) rfl rfl ?_
          refine WL.val (dx_slL i rfl ty_slice_23 rfl rfl rfl (by omega) (by omega)) rfl rfl ?_
          refine WL.val (dx_move rfl rfl) rfl rfl ?_
          refine WL.get (dx_cpV (B := B) (R := ((rs ++ sp).take (i + vs.length) ++ ((((rs ++ sp).drop i).take (rs.length + vs.length - i)).take (rs.length - i) ++ (rs ++ sp).drop (i + vs.length + (rs.length - i))))) (news := vs) (lo := i) (n := (rs.length + vs.length - i)) rfl ty_slice_23 rfl (fun hn => by rw [offV_in (n := (rs.length + vs.length - i)) hn (by omega)]; simp) rfl k39 (hV.rd (L := []) (by simp)) (fun r hr => hvone r (List.mem_of_mem_take hr)) (by omega)) rfl rfl ?_
          rintro _ W42 ⟨rfl, k43, o44⟩
          replace hB := hB.only o44 (.inl rfl)
          replace hL := LL.only hL o44
          replace hV := hV.other o44 hCB
          rw [List.take_of_length_le (l := vs) (by omega), show min vs.length (rs.length + vs.length - i) = vs.length by omega, hg] at k43
          have hown := k43.own
          refine WL.nil ?_
          refine hK41 ?_
          refine WC.seq fun K45 hK45 => ?_
          refine WC.region ?_
          refine WL.val (dx_move rfl rfl) rfl rfl ?_
          refine WL.val (dx_assign rfl rfl) rfl rfl ?_
          refine WL.nil ?_
          refine hK45 ?_
          refine WC.ret fun a_ ha_ => ?_
          exact hQ (cw_ret1 rfl (.tmp rfl) ⟨B, ins_own_eq hown hi rfl (by simp; omega), .inl rfl⟩ hB ha_)

set_option maxHeartbeats 1000000 in
theorem insertNT_v (vs vp : List (List Value)) (C : Nat) (w : World) (L : List Nat) (hL : LL L w)   (hV : RwB 1 w C (vs ++ vp)) (hvs : vs ≠ []) (hsm : vs.length * 16 ≤ 140737488355328) : CV Try.prog 50 [.slice none 0 0, .int .i64 0, .slice (some ⟨C, 0, none⟩) vs.length ((vs ++ vp).length)] w fun v W => ∃ B, w.heap.size ≤ B ∧ OwS 1 W v vs B := by
  refine cv_enter (N := 95) (f := [(0, .slice none 0 0), (1, .int .i64 0), (2, .slice (some ⟨C, 0, none⟩) vs.length ((vs ++ vp).length))]) Try.func50 rfl rfl rfl rfl fun Q hQ hE => ?_
  have hB := Below.refl w.heap.size w
  have hm0 := List.length_pos_iff.2 hvs
  refine WC.seq fun K1 hK1 => ?_
  refine WC.region ?_
  refine WL.val (dx_assign rfl rfl) rfl rfl ?_
  refine WL.nil ?_
  refine hK1 ?_
  refine WC.seq fun K2 hK2 => ?_
  refine WC.region ?_
  refine WL.val (dx_move rfl rfl) rfl rfl ?_
  refine WL.val (dx_move rfl rfl) rfl rfl ?_
  refine WL.val (dx_slN rfl ty_slice_23 rfl rfl) rfl rfl ?_
  refine WL.nil ?_
  refine hK2 ?_
  refine WC.seq fun K3 hK3 => ?_
  refine WC.region ?_
  refine WL.val (dx_move rfl rfl) rfl rfl ?_
  refine WL.val (dx_len rfl Try.underlying23 rfl) rfl rfl ?_
  refine WL.val (dx_assign rfl rfl) rfl rfl ?_
  refine WL.nil ?_
  refine hK3 ?_
  refine WC.seq fun K4 hK4 => ?_
  refine WC.seq fun K5 hK5 => ?_
  refine WC.region ?_
  refine WL.val (dx_move rfl rfl) rfl rfl ?_
  refine WL.val (dx_eql rfl rfl rfl) rfl rfl ?_
  refine WL.nil ?_
  refine hK5 ?_
  refine WC.cond rfl (fun c6 => ?_) (fun c6 => ?_)
  ·
    replace c6 := of_decide_eq_true c6
    exfalso; omega
  ·
    replace c6 := of_decide_eq_false c6
    refine WC.skip ?_
    refine hK4 ?_
    refine WC.seq fun K7 hK7 => ?_
    refine WC.region ?_
    refine WL.val (dx_move rfl rfl) rfl rfl ?_
    refine WL.val (dx_len rfl Try.underlying23 rfl) rfl rfl ?_
    refine WL.val (dx_assign rfl rfl) rfl rfl ?_
    refine WL.nil ?_
    refine hK7 ?_
    refine WC.seq fun K8 hK8 => ?_
    refine WC.seq fun K9 hK9 => ?_
    refine WC.region ?_
    refine WL.val (dx_move rfl rfl) rfl rfl ?_
    refine WL.val (dx_move rfl rfl) rfl rfl ?_
    refine WL.val (dx_eql rfl rfl rfl) rfl rfl ?_
    refine WL.nil ?_
    refine hK9 ?_
    refine WC.cond rfl (fun c10 => ?_) (fun c10 => ?_)
    ·
      replace c10 := of_decide_eq_true c10
      refine WC.seq fun K11 hK11 => ?_
      refine WC.region ?_
      refine WL.val (dx_move rfl rfl) rfl rfl ?_
      refine WL.val (dx_move rfl rfl) rfl rfl ?_
      refine WL.get (dx_apF (rs := []) (news := vs) rfl ty_ap_23 rfl rfl (RdF.nil (L := []) (by decide)) (hV.rd (L := []) (by simp)) hvs (by simp; unfold maxLen; omega) (by simp; omega)) rfl rfl ?_
      rintro u16 W12 ⟨k13, b14, z15⟩
      replace hB := below_then hB b14
      refine WL.val (dx_assign rfl rfl) rfl rfl ?_
      refine WL.nil ?_
      refine hK11 ?_
      refine WC.ret fun a_ ha_ => ?_
      exact hQ (cv_ret1 rfl (.tmp rfl) ⟨w.heap.size, Nat.le_refl _, k13⟩ hB ha_)
    ·
      replace c10 := of_decide_eq_false c10
      exact absurd rfl c10

set_option maxHeartbeats 1000000 in
theorem insertV_v (rs sp vs vp : List (List Value)) (i : Nat) (B C : Nat) (w : World) (L : List Nat) (hL : LL (B :: L) w) (hO : RwB 5 w B (rs ++ sp)) (hV : RwB 5 w C (vs ++ vp)) (hCB : C ≠ B) (hi : i ≤ rs.length) (hvs : vs ≠ []) (hsm : (rs.length + vs.length) * 80 ≤ 140737488355328) (hone : ∀ r ∈ rs, ∀ u ∈ r, u.oneCell' = true) (hvone : ∀ r ∈ vs, ∀ u ∈ r, u.oneCell' = true) : CW Try.prog 51 [.slice (some ⟨B, 0, none⟩) rs.length ((rs ++ sp).length), .int .i64 (i : Int), .slice (some ⟨C, 0, none⟩) vs.length ((vs ++ vp).length)] w B fun v W => ∃ B', OwS 5 W v (rs.take i ++ (vs ++ rs.drop i)) B' ∧ (B' = B ∨ w.heap.size ≤ B') := by
  refine cw_enter (N := 95) (f := [(0, .slice (some ⟨B, 0, none⟩) rs.length ((rs ++ sp).length)), (1, .int .i64 (i : Int)), (2, .slice (some ⟨C, 0, none⟩) vs.length ((vs ++ vp).length))]) Try.func51 rfl rfl rfl rfl fun Q hQ hE => ?_
  have hB := Chg.refl B w
  have hlen : (rs ++ sp).length = rs.length + sp.length := List.length_append
  have hm0 := List.length_pos_iff.2 hvs
  refine WC.seq fun K1 hK1 => ?_
  refine WC.region ?_
  refine WL.val (dx_assign rfl rfl) rfl rfl ?_
  refine WL.nil ?_
  refine hK1 ?_
  refine WC.seq fun K2 hK2 => ?_
  refine WC.region ?_
  refine WL.val (dx_move rfl rfl) rfl rfl ?_
  refine WL.val (dx_move rfl rfl) rfl rfl ?_
  refine WL.val (dx_slL i rfl ty_slice_24 rfl rfl rfl (by omega) (by omega)) rfl rfl ?_
  refine WL.nil ?_
  refine hK2 ?_
  refine WC.seq fun K3 hK3 => ?_
  refine WC.region ?_
  refine WL.val (dx_move rfl rfl) rfl rfl ?_
  refine WL.val (dx_len rfl Try.underlying24 rfl) rfl rfl ?_
  refine WL.val (dx_assign rfl rfl) rfl rfl ?_
  refine WL.nil ?_
  refine hK3 ?_
  refine WC.seq fun K4 hK4 => ?_
  refine WC.seq fun K5 hK5 => ?_
  refine WC.region ?_
  refine WL.val (dx_move rfl rfl) rfl rfl ?_
  refine WL.val (dx_eql rfl rfl rfl) rfl rfl ?_
  refine WL.nil ?_
  refine hK5 ?_
  refine WC.cond rfl (fun c6 => ?_) (fun c6 => ?_)
  ·
    replace c6 := of_decide_eq_true c6
    exfalso; omega
  ·
    replace c6 := of_decide_eq_false c6
    refine WC.skip ?_
    refine hK4 ?_
    refine WC.seq fun K7 hK7 => ?_
    refine WC.region ?_
    refine WL.val (dx_move rfl rfl) rfl rfl ?_
    refine WL.val (dx_len rfl Try.underlying24 rfl) rfl rfl ?_
    refine WL.val (dx_assign rfl rfl) rfl rfl ?_
    refine WL.nil ?_
    refine hK7 ?_
    refine WC.seq fun K8 hK8 => ?_
    refine WC.seq fun K9 hK9 => ?_
    refine WC.region ?_
    refine WL.val (dx_move rfl rfl) rfl rfl ?_
    refine WL.val (dx_move rfl rfl) rfl rfl ?_
    refine WL.val (dx_eql rfl rfl rfl) rfl rfl ?_
    refine WL.nil ?_
    refine hK9 ?_
    refine WC.cond rfl (fun c10 => ?_) (fun c10 => ?_)
    ·
      replace c10 := of_decide_eq_true c10
      refine WC.seq fun K11 hK11 => ?_
      refine WC.region ?_
      refine WL.val (dx_move rfl rfl) rfl rfl ?_
      refine WL.val (dx_move rfl rfl) rfl rfl ?_
      refine WL.get (dx_apO' (rs := rs) (news := vs) rfl ty_ap_24 rfl rfl hO.own (hV.rd (L := []) (by simp)) hvone (by unfold maxLen; omega) (by omega)) rfl rfl ?_
      rintro u16 W12 ⟨B13, k14, g15⟩
      replace hB := hB.grow g15 (.inl rfl)
      refine WL.val (dx_assign rfl rfl) rfl rfl ?_
      refine WL.nil ?_
      refine hK11 ?_
      refine WC.ret fun a_ ha_ => ?_
      exact hQ (cw_ret1 rfl (.tmp rfl) ⟨B13, (by have e : i = rs.length := (by omega); rw [e, List.take_length, List.drop_length, List.append_nil]; exact k14), g15.new_or⟩ hB ha_)
    ·
      replace c10 := of_decide_eq_false c10
      refine WC.skip ?_
      refine hK8 ?_
      refine WC.seq fun K17 hK17 => ?_
      refine WC.seq fun K18 hK18 => ?_
      refine WC.region ?_
      refine WL.val (dx_move rfl rfl) rfl rfl ?_
      refine WL.val (dx_move rfl rfl) rfl rfl ?_
      refine WL.val (dx_add (r := ((rs.length + vs.length : Nat) : Int)) rfl rfl rfl (by rw [wrap64_id (by omega)]; omega)) rfl rfl ?_
      refine WL.val (dx_move rfl rfl) rfl rfl ?_
      refine WL.val (dx_cap rfl Try.underlying24 rfl) rfl rfl ?_
      refine WL.val (dx_gtr rfl rfl rfl) rfl rfl ?_
      refine WL.nil ?_
      refine hK18 ?_
      refine WC.cond rfl (fun c19 => ?_) (fun c19 => ?_)
      ·
        replace c19 := of_decide_eq_true c19
        refine WC.seq fun K20 hK20 => ?_
        refine WC.region ?_
        refine WL.val (dx_move rfl rfl) rfl rfl ?_
        refine WL.val (dx_move rfl rfl) rfl rfl ?_
        refine WL.val (dx_slH i rfl ty_slice_24 rfl rfl rfl (by omega)) rfl rfl ?_
        refine WL.val (dx_move rfl rfl) rfl rfl ?_
        refine WL.val (dx_move rfl rfl) rfl rfl ?_
        refine WL.val (dx_add (r := ((rs.length + vs.length : Nat) : Int)) rfl rfl rfl (by rw [wrap64_id (by omega)]; omega)) rfl rfl ?_
        refine WL.val (dx_move rfl rfl) rfl rfl ?_
        refine WL.val (dx_sub (r := ((rs.length + vs.length - i : Nat) : Int)) rfl rfl rfl (by rw [wrap64_id (by omega)]; omega)) rfl rfl ?_
        refine WL.get (dx_apZ (rs.length + vs.length - i) (R := (rs ++ sp)) rfl ty_ap_24 Try.underlying3 rfl rfl rfl hO (by omega) (by omega) (by unfold maxLen; omega) (by omega)) rfl rfl ?_
        rintro _ W1 ⟨Z, rfl, hz1, hz2, kZ, bZ, zZ⟩
        have nB : B ≠ w.heap.size := Nat.ne_of_lt hO.lt
        have nC : C ≠ w.heap.size := Nat.ne_of_lt hV.lt
        replace hO := hO.below bZ
        replace hV := hV.below bZ
        replace hB := hB.thenB bZ
        replace hL := LL.more hL zZ
        have hz3 : Z.take i = rs.take i := (by rw [hz2]; exact List.take_append_of_le_length hi)
        have ez : i + (rs.length + vs.length - i) = rs.length + vs.length := (by omega)
        rw [ez] at hz1
        refine WL.val (dx_assign rfl rfl) rfl rfl ?_
        refine WL.nil ?_
        refine hK20 ?_
        refine WC.seq fun K21 hK21 => ?_
        refine WC.region ?_
        refine WL.val (dx_move rfl rfl) rfl rfl ?_
        refine WL.val (dx_move rfl rfl) rfl rfl ?_
        refine WL.val (dx_slL i rfl ty_slice_24 rfl rfl rfl (by omega) (by omega)) rfl rfl ?_
        refine WL.val (dx_move rfl rfl) rfl rfl ?_
        refine WL.get (dx_cpV (B := w.heap.size) (R := Z) (news := vs) (lo := i) (n := (i + (rs.length + vs.length - i) - i)) rfl ty_slice_24 rfl (fun hn => by rw [offV_in (n := (i + (rs.length + vs.length - i) - i)) hn (by omega)]; simp) rfl kZ (hV.rd (L := []) (by simp)) (fun r hr => hvone r (List.mem_of_mem_take hr)) (by omega)) rfl rfl ?_
        rintro _ W22 ⟨rfl, k23, o24⟩
        replace hB := hB.only o24 (.inr (Nat.le_refl _))
        replace hL := LL.only hL o24
        replace hO := hO.other o24 nB
        replace hV := hV.other o24 nC
        rw [List.take_of_length_le (l := vs) (by omega), show min vs.length (i + (rs.length + vs.length - i) - i) = vs.length by omega] at k23
        have l3 : (Z.take i ++ (vs ++ Z.drop (i + vs.length))).length = Z.length := (by simp; omega)
        have hg := ins_grow (vs := vs) hi hz1 hz3
        simp only at hg
        refine WL.nil ?_
        refine hK21 ?_
        refine WC.seq fun K25 hK25 => ?_
        refine WC.drawM 8 [(some 46, .is (.slice (some ⟨w.heap.size, 0, none⟩) (i + (rs.length + vs.length - i)) Z.length)), (some 47, .is (.int .i64 (i : Int))), (some 48, .is (.int .i64 (vs.length : Int))), (some 49, .is (.int .i64 ((i + vs.length : Nat) : Int))), (some 50, .is (.slice (some ⟨w.heap.size, (offV Z.length (i + vs.length) 0 5), none⟩) ((i + (rs.length + vs.length - i)) - (i + vs.length)) (Z.length - (i + vs.length)))), (some 51, .is (.slice (some ⟨B, 0, none⟩) rs.length ((rs ++ sp).length))), (some 52, .is (.int .i64 (i : Int))), (some 53, .is (.slice (some ⟨B, (offV ((rs ++ sp).length) i 0 5), none⟩) (rs.length - i) ((rs ++ sp).length - i)))] [[], [], [], [1, 2], [0, 3], [], [], [5, 6]] (by kernel_rfl) (by kernel_rfl) (by kernel_rfl) (by kernel_rfl) (by kernel_rfl) (by kernel_rfl) (by kernel_rfl) (by exact trivial) ?_ ?_
        ·
          refine DSteps.cons (fun Wd hd => ?_) ?_
          ·
            exact DV.dr (dx_move rfl rfl) ⟨Below.refl _ _, rfl⟩
          refine DSteps.cons (fun Wd hd => ?_) ?_
          ·
            exact DV.dr (dx_move rfl rfl) ⟨Below.refl _ _, rfl⟩
          refine DSteps.cons (fun Wd hd => ?_) ?_
          ·
            exact DV.dr (dx_move rfl rfl) ⟨Below.refl _ _, rfl⟩
          refine DSteps.cons (fun Wd hd => ?_) ?_
          ·
            exact DV.dr (dx_add (r := ((i + vs.length : Nat) : Int)) rfl rfl rfl (by rw [wrap64_id (by omega)]; omega)) ⟨Below.refl _ _, rfl⟩
          refine DSteps.cons (fun Wd hd => ?_) ?_
          ·
            exact DV.dr (dx_slL (i + vs.length) rfl ty_slice_24 rfl rfl rfl (by omega) (by omega)) ⟨Below.refl _ _, rfl⟩
          refine DSteps.cons (fun Wd hd => ?_) ?_
          ·
            exact DV.dr (dx_move rfl rfl) ⟨Below.refl _ _, rfl⟩
          refine DSteps.cons (fun Wd hd => ?_) ?_
          ·
            exact DV.dr (dx_move rfl rfl) ⟨Below.refl _ _, rfl⟩
          refine DSteps.cons (fun Wd hd => ?_) ?_
          ·
            exact DV.dr (dx_slL i rfl ty_slice_24 rfl rfl rfl (by omega) (by omega)) ⟨Below.refl _ _, rfl⟩
          exact trivial
        ·
          intro W26 b27
          replace hO := hO.below b27
          replace hV := hV.below b27
          replace k23 := k23.below b27
          replace hB := hB.thenB b27
          replace hL := LL.below hL b27
          refine WL.get (dx_cpV (B := w.heap.size) (R := (Z.take i ++ (vs ++ Z.drop (i + vs.length)))) (news := (((rs ++ sp).drop i).take (rs.length - i))) (lo := (i + vs.length)) (n := (i + (rs.length + vs.length - i) - (i + vs.length))) rfl ty_slice_24 rfl (fun hn => by rw [offV_in (n := (i + (rs.length + vs.length - i) - (i + vs.length))) hn (by omega)]; simp) rfl k23 (hO.part (L := []) (lo := i) (n := rs.length - i) (by simp) (fun hn => by rw [offV_in (n := rs.length - i) hn (by rw [hlen]; omega)]; simp) (by rw [hlen]; omega) (by rw [hlen]; omega)) (fun r hr => hone r (mem_tail hi (List.mem_of_mem_take hr))) (by omega)) rfl rfl ?_
          rintro _ W28 ⟨rfl, k29, o30⟩
          replace hB := hB.only o30 (.inr (Nat.le_refl _))
          replace hL := LL.only hL o30
          replace hO := hO.other o30 nB
          replace hV := hV.other o30 nC
          rw [show ((rs ++ sp).drop i).take (rs.length - i) = rs.drop i from del_tail hi] at k29
          rw [List.take_of_length_le (l := rs.drop i) (by rw [List.length_drop]; omega), List.length_drop, show min (rs.length - i) (i + (rs.length + vs.length - i) - (i + vs.length)) = rs.length - i by omega, hg] at k29
          have hown := k29.own
          refine WL.nil ?_
          refine hK25 ?_
          refine WC.seq fun K31 hK31 => ?_
          refine WC.region ?_
          refine WL.val (dx_move rfl rfl) rfl rfl ?_
          refine WL.val (dx_assign rfl rfl) rfl rfl ?_
          refine WL.nil ?_
          refine hK31 ?_
          refine WC.ret fun a_ ha_ => ?_
          exact hQ (cw_ret1 rfl (.tmp rfl) ⟨w.heap.size, ins_own_eq hown hi ez.symm (by simp; omega), .inr (Nat.le_refl _)⟩ hB ha_)
      ·
        replace c19 := of_decide_eq_false c19
        refine WC.skip ?_
        refine hK17 ?_
        refine WC.seq fun K32 hK32 => ?_
        refine WC.region ?_
        refine WL.val (dx_move rfl rfl) rfl rfl ?_
        refine WL.val (dx_move rfl rfl) rfl rfl ?_
        refine WL.val (dx_move rfl rfl) rfl rfl ?_
        refine WL.val (dx_add (r := ((rs.length + vs.length : Nat) : Int)) rfl rfl rfl (by rw [wrap64_id (by omega)]; omega)) rfl rfl ?_
        refine WL.val (dx_slH (rs.length + vs.length) rfl ty_slice_24 rfl rfl rfl (by omega)) rfl rfl ?_
        refine WL.val (dx_assign rfl rfl) rfl rfl ?_
        refine WL.nil ?_
        refine hK32 ?_
        refine WC.seq fun K33 hK33 => ?_
        refine WC.seq fun K34 hK34 => ?_
        refine WC.region ?_
        refine WL.val (dx_move rfl rfl) rfl rfl ?_
        refine WL.val (dx_move rfl rfl) rfl rfl ?_
        refine WL.val (dx_move rfl rfl) rfl rfl ?_
        refine WL.val (dx_move rfl rfl) rfl rfl ?_
        refine WL.val (dx_add (r := ((i + vs.length : Nat) : Int)) rfl rfl rfl (by rw [wrap64_id (by omega)]; omega)) rfl rfl ?_
        refine WL.val (dx_slL (i + vs.length) rfl ty_slice_24 rfl rfl rfl (by omega) (by omega)) rfl rfl ?_
        refine WL.val (dx_ovl (U := (rs ++ sp)) (V := (vs ++ vp)) (s := 5) (tR := 4) rfl Try.func78 (by kernel_rfl) (by kernel_rfl) (by kernel_rfl) (by kernel_rfl) ty_slice_24 rfl rfl hV hO hCB (by intro e; rw [e] at hlen; simp only [List.length_nil] at hlen; omega)) rfl rfl ?_
        refine WL.val (dx_not rfl rfl) rfl rfl ?_
        refine WL.nil ?_
        refine hK34 ?_
        refine WC.condT rfl ?_
        refine WC.seq fun K35 hK35 => ?_
        refine WC.drawM 8 [(some 69, .is (.slice (some ⟨B, 0, none⟩) (rs.length + vs.length) ((rs ++ sp).length))), (some 70, .is (.int .i64 (i : Int))), (some 71, .is (.int .i64 (vs.length : Int))), (some 72, .is (.int .i64 ((i + vs.length : Nat) : Int))), (some 73, .is (.slice (some ⟨B, (offV ((rs ++ sp).length) (i + vs.length) 0 5), none⟩) ((rs.length + vs.length) - (i + vs.length)) ((rs ++ sp).length - (i + vs.length)))), (some 74, .is (.slice (some ⟨B, 0, none⟩) (rs.length + vs.length) ((rs ++ sp).length))), (some 75, .is (.int .i64 (i : Int))), (some 76, .is (.slice (some ⟨B, (offV ((rs ++ sp).length) i 0 5), none⟩) ((rs.length + vs.length) - i) ((rs ++ sp).length - i)))] [[], [], [], [1, 2], [0, 3], [], [], [5, 6]] (by kernel_rfl) (by kernel_rfl) (by kernel_rfl) (by kernel_rfl) (by kernel_rfl) (by kernel_rfl) (by kernel_rfl) (by exact trivial) ?_ ?_
        ·
          refine DSteps.cons (fun Wd hd => ?_) ?_
          ·
            exact DV.dr (dx_move rfl rfl) ⟨Below.refl _ _, rfl⟩
          refine DSteps.cons (fun Wd hd => ?_) ?_
          ·
            exact DV.dr (dx_move rfl rfl) ⟨Below.refl _ _, rfl⟩
          refine DSteps.cons (fun Wd hd => ?_) ?_
          ·
            exact DV.dr (dx_move rfl rfl) ⟨Below.refl _ _, rfl⟩
          refine DSteps.cons (fun Wd hd => ?_) ?_
          ·
            exact DV.dr (dx_add (r := ((i + vs.length : Nat) : Int)) rfl rfl rfl (by rw [wrap64_id (by omega)]; omega)) ⟨Below.refl _ _, rfl⟩
          refine DSteps.cons (fun Wd hd => ?_) ?_
          ·
            exact DV.dr (dx_slL (i + vs.length) rfl ty_slice_24 rfl rfl rfl (by omega) (by omega)) ⟨Below.refl _ _, rfl⟩
          refine DSteps.cons (fun Wd hd => ?_) ?_
          ·
            exact DV.dr (dx_move rfl rfl) ⟨Below.refl _ _, rfl⟩
          refine DSteps.cons (fun Wd hd => ?_) ?_
          ·
            exact DV.dr (dx_move rfl rfl) ⟨Below.refl _ _, rfl⟩
          refine DSteps.cons (fun Wd hd => ?_) ?_
          ·
            exact DV.dr (dx_slL i rfl ty_slice_24 rfl rfl rfl (by omega) (by omega)) ⟨Below.refl _ _, rfl⟩
          exact trivial
        ·
          intro W36 b37
          replace hO := hO.below b37
          replace hV := hV.below b37
          replace hB := hB.thenB b37
          replace hL := LL.below hL b37
          refine WL.get (dx_cpV (B := B) (R := (rs ++ sp)) (news := (((rs ++ sp).drop i).take (rs.length + vs.length - i))) (lo := (i + vs.length)) (n := (rs.length + vs.length - (i + vs.length))) rfl ty_slice_24 rfl (fun hn => by rw [offV_in (n := (rs.length + vs.length - (i + vs.length))) hn (by omega)]; simp) rfl hO (hO.part (L := []) (lo := i) (n := rs.length + vs.length - i) (by simp) (fun hn => by rw [offV_in (n := rs.length + vs.length - i) hn (by omega)]; simp) (by omega) (by omega)) (fun r hr => hone r (mem_tail2 hi (by omega) (by omega) hr)) (by omega)) rfl rfl ?_
          rintro _ W38 ⟨rfl, k39, o40⟩
          replace hB := hB.only o40 (.inl rfl)
          replace hL := LL.only hL o40
          replace hV := hV.other o40 hCB
          have ll : (((rs ++ sp).drop i).take (rs.length + vs.length - i)).length = rs.length + vs.length - i := (by rw [List.length_take, List.length_drop]; omega)
          rw [ll, show min (rs.length + vs.length - i) (rs.length + vs.length - (i + vs.length)) = rs.length - i by omega, show rs.length + vs.length - (i + vs.length) = rs.length - i by omega] at k39
          have l3 : ((rs ++ sp).take (i + vs.length) ++ ((((rs ++ sp).drop i).take (rs.length + vs.length - i)).take (rs.length - i) ++ (rs ++ sp).drop (i + vs.length + (rs.length - i)))).length = (rs ++ sp).length := (by simp; omega)
          have hg := ins_room (vs := vs) (sp := sp) hi (by omega)
          simp only at hg
          refine WL.nil ?_
          refine hK35 ?_
          refine WC.seq fun K41 hK41 => ?_
          refine WC.region ?_
          refine WL.val (dx_move rfl rfl) rfl rfl ?_
          refine WL.val (dx_move rfl rfl) rfl rfl ?_
          refine WL.val (dx_slL i rfl ty_slice_24 rfl rfl rfl (by omega) (by omega)) rfl rfl ?_
          refine WL.val (dx_move rfl rfl) rfl rfl ?_
          refine WL.get (dx_cpV (B := B) (R := ((rs ++ sp).take (i + vs.length) ++ ((((rs ++ sp).drop i).take (rs.length + vs.length - i)).take (rs.length - i) ++ (rs ++ sp).drop (i + vs.length + (rs.length - i))))) (news := vs) (lo := i) (n := (rs.length + vs.length - i)) rfl ty_slice_24 rfl (fun hn => by rw [offV_in (n := (rs.length + vs.length - i)) hn (by omega)]; simp) rfl k39 (hV.rd (L := []) (by simp)) (fun r hr => hvone r (List.mem_of_mem_take hr)) (by omega)) rfl rfl ?_
          rintro _ W42 ⟨rfl, k43, o44⟩
          replace hB := hB.only o44 (.inl rfl)
          replace hL := LL.only hL o44
          replace hV := hV.other o44 hCB
          rw [List.take_of_length_le (l := vs) (by omega), show min vs.length (rs.length + vs.length - i) = vs.length by omega, hg] at k43
          have hown := k43.own
          refine WL.nil ?_
          refine hK41 ?_
          refine WC.seq fun K45 hK45 => ?_
          refine WC.region ?_
          refine WL.val (dx_move rfl rfl) rfl rfl ?_
          refine WL.val (dx_assign rfl rfl) rfl rfl ?_
          refine WL.nil ?_
          refine hK45 ?_
          refine WC.ret fun a_ ha_ => ?_
          exact hQ (cw_ret1 rfl (.tmp rfl) ⟨B, ins_own_eq hown hi rfl (by simp; omega), .inl rfl⟩ hB ha_)

set_option maxHeartbeats 1000000 in
theorem insertNV_v (vs vp : List (List Value)) (C : Nat) (w : World) (L : List Nat) (hL : LL L w)   (hV : RwB 5 w C (vs ++ vp)) (hvs : vs ≠ []) (hsm : vs.length * 80 ≤ 140737488355328) : CV Try.prog 51 [.slice none 0 0, .int .i64 0, .slice (some ⟨C, 0, none⟩) vs.length ((vs ++ vp).length)] w fun v W => ∃ B, w.heap.size ≤ B ∧ OwS 5 W v vs B := by
  refine cv_enter (N := 95) (f := [(0, .slice none 0 0), (1, .int .i64 0), (2, .slice (some ⟨C, 0, none⟩) vs.length ((vs ++ vp).length))]) Try.func51 rfl rfl rfl rfl fun Q hQ hE => ?_
  have hB := Below.refl w.heap.size w
  have hm0 := List.length_pos_iff.2 hvs
  refine WC.seq fun K1 hK1 => ?_
  refine WC.region ?_
  refine WL.val (dx_assign rfl rfl) rfl rfl ?_
  refine WL.nil ?_
  refine hK1 ?_
  refine WC.seq fun K2 hK2 => ?_
  refine WC.region ?_
  refine WL.val (dx_move rfl rfl) rfl rfl ?_
  refine WL.val (dx_move rfl rfl) rfl rfl ?_
  refine WL.val (dx_slN rfl ty_slice_24 rfl rfl) rfl rfl ?_
  refine WL.nil ?_
  refine hK2 ?_
  refine WC.seq fun K3 hK3 => ?_
  refine WC.region ?_
  refine WL.val (dx_move rfl rfl) rfl rfl ?_
  refine WL.val (dx_len rfl Try.underlying24 rfl) rfl rfl ?_
  refine WL.val (dx_assign rfl rfl) rfl rfl ?_
  refine WL.nil ?_
  refine hK3 ?_
  refine WC.seq fun K4 hK4 => ?_
  refine WC.seq fun K5 hK5 => ?_
  refine WC.region ?_
  refine WL.val (dx_move rfl rfl) rfl rfl ?_
  refine WL.val (dx_eql rfl rfl rfl) rfl rfl ?_
  refine WL.nil ?_
  refine hK5 ?_
  refine WC.cond rfl (fun c6 => ?_) (fun c6 => ?_)
  ·
    replace c6 := of_decide_eq_true c6
    exfalso; omega
  ·
    replace c6 := of_decide_eq_false c6
    refine WC.skip ?_
    refine hK4 ?_
    refine WC.seq fun K7 hK7 => ?_
    refine WC.region ?_
    refine WL.val (dx_move rfl rfl) rfl rfl ?_
    refine WL.val (dx_len rfl Try.underlying24 rfl) rfl rfl ?_
    refine WL.val (dx_assign rfl rfl) rfl rfl ?_
    refine WL.nil ?_
    refine hK7 ?_
    refine WC.seq fun K8 hK8 => ?_
    refine WC.seq fun K9 hK9 => ?_
    refine WC.region ?_
    refine WL.val (dx_move rfl rfl) rfl rfl ?_
    refine WL.val (dx_move rfl rfl) rfl rfl ?_
    refine WL.val (dx_eql rfl rfl rfl) rfl rfl ?_
    refine WL.nil ?_
    refine hK9 ?_
    refine WC.cond rfl (fun c10 => ?_) (fun c10 => ?_)
    ·
      replace c10 := of_decide_eq_true c10
      refine WC.seq fun K11 hK11 => ?_
      refine WC.region ?_
      refine WL.val (dx_move rfl rfl) rfl rfl ?_
      refine WL.val (dx_move rfl rfl) rfl rfl ?_
      refine WL.get (dx_apF (rs := []) (news := vs) rfl ty_ap_24 rfl rfl (RdF.nil (L := []) (by decide)) (hV.rd (L := []) (by simp)) hvs (by simp; unfold maxLen; omega) (by simp; omega)) rfl rfl ?_
      rintro u16 W12 ⟨k13, b14, z15⟩
      replace hB := below_then hB b14
      refine WL.val (dx_assign rfl rfl) rfl rfl ?_
      refine WL.nil ?_
      refine hK11 ?_
      refine WC.ret fun a_ ha_ => ?_
      exact hQ (cv_ret1 rfl (.tmp rfl) ⟨w.heap.size, Nat.le_refl _, k13⟩ hB ha_)
    ·
      replace c10 := of_decide_eq_false c10
      exact absurd rfl c10

end Go.Proofs.Ytpinidlfcifeeaa
namespace Go.Proofs.Ytpinidlfcifeeaa
open Go.RowKit
set_option linter.unusedVariables false
set_option linter.unusedSimpArgs false
set_option maxRecDepth 8000

section
variable {P : Program} {ops : Array Oper} {o : Oper} {N : Nat} {f : Fl} {w : World}
theorem dx_shr {t t' : TypeId} {x y : Operand} {K K2 : IntKind} {m n r : Int} (ho : o.op = .binOp .shr t x y t') (hx : ev f x = some (.int K m)) (hy : ev f y = some (.int K2 n)) (hn : 0 ≤ n) (hn2 : n ≤ K.bits) (hr : m / 2 ^ n.toNat = r) (hw : wantF ops o f = some true := by rfl) : DV P ops o N f w (.int K r) := fun a ha =>
  Does.shr (wantF_of ha hw) ho (ha.ev hx) (ha.ev hy) hn hn2 hr ⟨rfl, rfl⟩
end
theorem GrowB.of_chg {B B' : Nat} {w w' : World} (h : Chg B w w') (hn : B' = B ∨ w.heap.size ≤ B') : GrowB B B' w w' := ⟨h.os, h.tape, h.output, h.size, fun k hk hB => h.block k hk hB, hn⟩
theorem ChgV.grow {b B C D D' : Nat} {w W W' : World} (h : ChgV b B C w W) (g : GrowB D D' W W') (hD : b ≤ D) (hb : b ≤ W.heap.size) : ChgV b B C w W' := h.both ⟨g.os, g.tape, g.output, g.size, fun k hk _ _ => g.block k (by omega) (by omega)⟩
set_option maxHeartbeats 1000000 in
theorem nanC_v (x : ByteArray) (w : World) (L : List Nat) (hL : LL L w)  : CV Try.prog 94 [.string x] w fun v W => v = .bool false := by
  refine cv_enter (N := 6) (f := [(0, .string x)]) Try.func94 rfl rfl rfl rfl fun Q hQ hE => ?_
  have hB := Below.refl w.heap.size w
  refine WC.seq fun K1 hK1 => ?_
  refine WC.region ?_
  refine WL.val (dx_assign rfl rfl) rfl rfl ?_
  refine WL.nil ?_
  refine hK1 ?_
  refine WC.seq fun K2 hK2 => ?_
  refine WC.region ?_
  refine WL.val (dx_move rfl rfl) rfl rfl ?_
  refine WL.val (dx_move rfl rfl) rfl rfl ?_
  refine WL.val (dv_Fz (dx_neqT rfl rfl rfl) rfl) rfl rfl ?_
  refine WL.val (dx_assign rfl rfl) rfl rfl ?_
  refine WL.nil ?_
  refine hK2 ?_
  refine WC.ret fun a_ ha_ => ?_
  exact hQ (cv_ret1 rfl (.tmp rfl) rfl hB ha_)

set_option maxHeartbeats 1000000 in
theorem nanS_v (x : ByteArray) (w : World) (L : List Nat) (hL : LL L w)  : CV Try.prog 75 [.string x] w fun v W => v = .bool false := by
  refine cv_enter (N := 6) (f := [(0, .string x)]) Try.func75 rfl rfl rfl rfl fun Q hQ hE => ?_
  have hB := Below.refl w.heap.size w
  refine WC.seq fun K1 hK1 => ?_
  refine WC.region ?_
  refine WL.val (dx_assign rfl rfl) rfl rfl ?_
  refine WL.nil ?_
  refine hK1 ?_
  refine WC.seq fun K2 hK2 => ?_
  refine WC.region ?_
  refine WL.val (dx_move rfl rfl) rfl rfl ?_
  refine WL.val (dx_move rfl rfl) rfl rfl ?_
  refine WL.val (dv_Fz (dx_neqT rfl rfl rfl) rfl) rfl rfl ?_
  refine WL.val (dx_assign rfl rfl) rfl rfl ?_
  refine WL.nil ?_
  refine hK2 ?_
  refine WC.ret fun a_ ha_ => ?_
  exact hQ (cv_ret1 rfl (.tmp rfl) rfl hB ha_)

set_option maxHeartbeats 1000000 in
theorem lessC_v (x y : ByteArray) (w : World) (L : List Nat) (hL : LL L w)  : CV Try.prog 74 [.string x, .string y] w fun v W => v = .bool (sless x y) := by
  refine cv_enter (N := 17) (f := [(0, .string x), (1, .string y)]) Try.func74 rfl rfl rfl rfl fun Q hQ hE => ?_
  have hB := Below.refl w.heap.size w
  refine WC.seq fun K1 hK1 => ?_
  refine WC.region ?_
  refine WL.val (dx_assign rfl rfl) rfl rfl ?_
  refine WL.nil ?_
  refine hK1 ?_
  refine WC.seq fun K2 hK2 => ?_
  refine WC.region ?_
  refine WL.val (dx_move rfl rfl) rfl rfl ?_
  refine WL.get (dx_cv rfl Try.func94 rfl rfl rfl (nanC_v x w _ hL)) rfl rfl ?_
  rintro _ W4 ⟨rfl, b3⟩
  replace hB := below_then hB b3
  replace hL := LL.below hL b3
  refine WL.val (dx_move rfl rfl) rfl rfl ?_
  refine WL.off rfl rfl rfl ?_
  refine WL.off rfl rfl rfl ?_
  refine WL.off rfl rfl rfl ?_
  refine WL.val (dx_pick rfl rfl rfl) rfl rfl ?_
  refine WL.val (dx_move rfl rfl) rfl rfl ?_
  refine WL.val (dx_move rfl rfl) rfl rfl ?_
  refine WL.val (dx_move rfl rfl) rfl rfl ?_
  refine WL.val (dx_lssT rfl rfl rfl) rfl rfl ?_
  refine WL.val (dx_pick rfl rfl rfl) rfl rfl ?_
  refine WL.val (dx_assign rfl rfl) rfl rfl ?_
  refine WL.nil ?_
  refine hK2 ?_
  refine WC.ret fun a_ ha_ => ?_
  exact hQ (cv_ret1 rfl (.tmp rfl) rfl hB ha_)

set_option maxHeartbeats 1000000 in
theorem bsearch_v (ts : List ByteArray) (x : ByteArray) (tv : Value) (w : World) (L : List Nat) (hL : LL L w) (h3 : RdF 1 L w tv (ts.map eS))  (hr : Rises ts) (hsm : ts.length ≤ 1000000000000) : CV Try.prog 49 [tv, .string x] w fun v W => v = .tuple #[.int .i64 ((lbT x ts : Nat) : Int), .bool (decide (ts[lbT x ts]? = some x))] := by
  refine cv_enter (N := 54) (f := [(0, tv), (1, .string x)]) Try.func49 rfl rfl rfl rfl fun Q hQ hE => ?_
  have hB := Below.refl w.heap.size w
  have h3m : ts.length ≤ maxLen := by have := h3.len; rwa [List.length_map] at this
  unfold maxLen at h3m
  refine WC.seq fun K1 hK1 => ?_
  refine WC.region ?_
  refine WL.val (dx_assign rfl rfl) rfl rfl ?_
  refine WL.val (dx_assign rfl rfl) rfl rfl ?_
  refine WL.nil ?_
  refine hK1 ?_
  refine WC.seq fun K2 hK2 => ?_
  refine WC.region ?_
  refine WL.val (dx_move rfl rfl) rfl rfl ?_
  refine WL.val (dx_lenFM rfl ty_slice_23 rfl h3) rfl rfl ?_
  refine WL.val (dx_assign rfl rfl) rfl rfl ?_
  refine WL.nil ?_
  refine hK2 ?_
  refine WC.seq fun K3 hK3 => ?_
  refine WC.region ?_
  refine WL.val (dx_move rfl rfl) rfl rfl ?_
  refine WL.val (dx_assign rfl rfl) rfl rfl ?_
  refine WL.val (dx_assign rfl rfl) rfl rfl ?_
  refine WL.nil ?_
  refine hK3 ?_
  refine WC.seq fun K4 hK4 => ?_
  refine WC.block ?_
  refine WC.loop2 (fun (i : Nat) (j : Nat) => [(0, tv), (1, .string x), (6, .int .i64 (ts.length : Int)), (7, .int .i64 (i : Int)), (8, .int .i64 (j : Int))]) (fun (i : Nat) (j : Nat) W => i ≤ j ∧ j ≤ ts.length ∧ (∀ q a, q < i → ts[q]? = some a → sless a x = true) ∧ (∀ q a, j ≤ q → ts[q]? = some a → sless a x = false) ∧ Below w.heap.size w W ∧ LL (L) W ∧ RdF 1 (L) W tv (ts.map eS)) (fun (i : Nat) (j : Nat) => j - i) 0 ts.length (by repeat first | exact trivial | exact And.intro rfl trivial | refine And.intro rfl ?_ | refine And.intro (congrArg (fun z : Int => some (Value.int .i64 z)) (by omega)) ?_) ⟨Nat.zero_le _, Nat.le_refl _, (fun q a hq => by omega), (fun q a hq ha => by rw [List.getElem?_eq_none hq] at ha; cases ha), hB, hL, h3⟩ ?_
  clear h3 hB hL
  rintro K5 i j W6 ⟨hi, hj, h1_, h2_, hB, hL, h3⟩ hK5
  refine WC.seq fun K7 hK7 => ?_
  refine WC.seq fun K8 hK8 => ?_
  refine WC.region ?_
  refine WL.val (dx_move rfl rfl) rfl rfl ?_
  refine WL.val (dx_move rfl rfl) rfl rfl ?_
  refine WL.val (dx_lss rfl rfl rfl) rfl rfl ?_
  refine WL.nil ?_
  refine hK8 ?_
  refine WC.cond rfl (fun c9 => ?_) (fun c9 => ?_)
  ·
    replace c9 := of_decide_eq_true c9
    refine WC.skip ?_
    refine hK7 ?_
    refine WC.block ?_
    refine WC.seq fun K10 hK10 => ?_
    obtain ⟨m, hm⟩ : ∃ k : Nat, k = (i + j) / 2 := ⟨_, rfl⟩
    have hm1 : i ≤ m ∧ m < j := by omega
    refine WC.region ?_
    refine WL.val (dx_move rfl rfl) rfl rfl ?_
    refine WL.val (dx_move rfl rfl) rfl rfl ?_
    refine WL.val (dx_add (r := ((i + j : Nat) : Int)) rfl rfl rfl (by rw [wrap64_id (by omega)]; omega)) rfl rfl ?_
    refine WL.val (dx_conv (r := ((i + j : Nat) : Int)) rfl Try.underlying3 Try.underlying97 rfl (wrapu64_id (by omega))) rfl rfl ?_
    refine WL.val (dx_shr (r := (m : Int)) rfl rfl rfl (by decide) (by decide) (by show ((i + j : Nat) : Int) / 2 ^ 1 = _; omega)) rfl rfl ?_
    refine WL.val (dx_conv (r := (m : Int)) rfl Try.underlying97 Try.underlying3 rfl (wrap64_id (by omega))) rfl rfl ?_
    refine WL.val (dx_assign rfl rfl) rfl rfl ?_
    refine WL.nil ?_
    refine hK10 ?_
    refine WC.seq fun K11 hK11 => ?_
    refine WC.region ?_
    refine WL.val (dx_move rfl rfl) rfl rfl ?_
    refine WL.val (dx_move rfl rfl) rfl rfl ?_
    obtain ⟨r12, e13⟩ : ∃ x, ts[m]? = some x := ⟨_, List.getElem?_eq_getElem (by omega)⟩
    refine WL.get (dx_idxF m rfl ty_slice_23 rfl rfl h3 (by omega) (at_mapX e13)) rfl rfl ?_
    rintro u14 _ ⟨rfl, p15⟩
    refine WL.val (dx_loadP rfl ty_one_9 rfl p15) rfl rfl ?_
    refine WL.val (dx_move rfl rfl) rfl rfl ?_
    refine WL.get (dx_cv rfl Try.func74 rfl rfl rfl (lessC_v r12 x W6 _ hL)) rfl rfl ?_
    rintro _ W17 ⟨rfl, b16⟩
    replace h3 := h3.below b16
    replace p15 := p15.below b16
    replace hB := below_then hB b16
    replace hL := LL.below hL b16
    refine WL.nil ?_
    refine hK11 ?_
    refine WC.cond rfl (fun c18 => ?_) (fun c18 => ?_)
    ·
      refine WC.region ?_
      refine WL.val (dx_move rfl rfl) rfl rfl ?_
      refine WL.val (dx_add (r := ((m + 1 : Nat) : Int)) rfl rfl rfl (by rw [wrap64_id (by omega)]; omega)) rfl rfl ?_
      refine WL.val (dx_assign rfl rfl) rfl rfl ?_
      refine WL.nil ?_
      exact hK5 (m + 1) j ⟨(by omega), (by omega), (fun q a hq ha => rises_ahead hr (i := m) (by omega) e13 c18 ha), h2_, hB, hL, h3⟩ (by omega) (by repeat first | exact trivial | exact And.intro rfl trivial | refine And.intro rfl ?_ | refine And.intro (congrArg (fun z : Int => some (Value.int .i64 z)) (by omega)) ?_)
    ·
      refine WC.region ?_
      refine WL.val (dx_move rfl rfl) rfl rfl ?_
      refine WL.val (dx_assign rfl rfl) rfl rfl ?_
      refine WL.nil ?_
      exact hK5 i m ⟨(by omega), (by omega), h1_, (fun q a hq ha => rises_behind hr (i := m) hq e13 (by first | exact c18 | exact Bool.not_eq_true _ ▸ c18) ha), hB, hL, h3⟩ (by omega) (by repeat first | exact trivial | exact And.intro rfl trivial | refine And.intro rfl ?_ | refine And.intro (congrArg (fun z : Int => some (Value.int .i64 z)) (by omega)) ?_)
  ·
    replace c9 := of_decide_eq_false c9
    refine WC.exit ?_
    refine hK4 ?_
    refine WC.seq fun K19 hK19 => ?_
    have hlb : lbT x ts = i := lbT_eq (by omega) h1_ (fun a ha => h2_ i a (by omega) ha)
    refine WC.region ?_
    refine WL.val (dx_move rfl rfl) rfl rfl ?_
    refine WL.val (dx_move rfl rfl) rfl rfl ?_
    refine WL.val (dx_move rfl rfl) rfl rfl ?_
    refine WL.val (dx_lss rfl rfl rfl) rfl rfl ?_
    refine WL.val (dx_move rfl rfl) rfl rfl ?_
    refine WL.split 35 rfl (fun g20 => ?_) (fun g20 => ?_)
    ·
      replace g20 := of_decide_eq_true g20
      refine WL.val (dx_move rfl rfl) rfl rfl ?_
      refine WL.val (dx_move rfl rfl) rfl rfl ?_
      obtain ⟨r21, e22⟩ : ∃ x, ts[i]? = some x := ⟨_, List.getElem?_eq_getElem (by omega)⟩
      refine WL.get (dx_idxF i rfl ty_slice_23 rfl rfl h3 (by omega) (at_mapX e22)) rfl rfl ?_
      rintro u23 _ ⟨rfl, p24⟩
      refine WL.val (dx_loadP rfl ty_one_9 rfl p24) rfl rfl ?_
      refine WL.val (dx_move rfl rfl) rfl rfl ?_
      refine WL.val (dx_eqlT rfl rfl rfl) rfl rfl ?_
      refine WL.val (dx_move rfl rfl) rfl rfl ?_
      refine WL.split 42 rfl (fun g25 => ?_) (fun g25 => ?_)
      ·
        replace g25 := of_decide_eq_true g25
        refine WL.off rfl rfl rfl ?_
        refine WL.off rfl rfl rfl ?_
        refine WL.off rfl rfl rfl ?_
        refine WL.off rfl rfl rfl ?_
        refine WL.off rfl rfl rfl ?_
        refine WL.off rfl rfl rfl ?_
        refine WL.off rfl rfl rfl ?_
        refine WL.off rfl rfl rfl ?_
        refine WL.off rfl rfl rfl ?_
        refine WL.val (dx_pick rfl rfl rfl) rfl rfl ?_
        refine WL.val (dx_pick rfl rfl rfl) rfl rfl ?_
        refine WL.val (dx_assign rfl rfl) rfl rfl ?_
        refine WL.val (dx_assign rfl rfl) rfl rfl ?_
        refine WL.nil ?_
        refine hK19 ?_
        refine WC.ret fun a_ ha_ => ?_
        exact hQ (cv_ret2 rfl (.tmp rfl) (.tmp rfl) (by rw [hlb]; exact congrArg (fun b => Value.tuple #[.int .i64 (i : Int), .bool b]) (decide_eq_true (by rw [e22]; congr 1 <;> assumption)).symm) hB ha_)
      ·
        replace g25 := of_decide_eq_false g25
        refine WL.val (dx_move rfl rfl) rfl rfl ?_
        refine WL.val (dx_move rfl rfl) rfl rfl ?_
        refine WL.get (dx_idxF i rfl ty_slice_23 rfl rfl h3 (by omega) (at_mapX e22)) rfl rfl ?_
        rintro u26 _ ⟨rfl, p27⟩
        refine WL.val (dx_loadP rfl ty_one_9 rfl p27) rfl rfl ?_
        refine WL.get (dx_cv rfl Try.func75 rfl rfl rfl (nanS_v r21 W6 _ hL)) rfl rfl ?_
        rintro _ W29 ⟨rfl, b28⟩
        replace h3 := h3.below b28
        replace p24 := p24.below b28
        replace p27 := p27.below b28
        replace hB := below_then hB b28
        replace hL := LL.below hL b28
        refine WL.val (dx_move rfl rfl) rfl rfl ?_
        refine WL.off rfl rfl rfl ?_
        refine WL.off rfl rfl rfl ?_
        refine WL.val (dx_pick rfl rfl rfl) rfl rfl ?_
        refine WL.val (dx_pick rfl rfl rfl) rfl rfl ?_
        refine WL.val (dx_pick rfl rfl rfl) rfl rfl ?_
        refine WL.val (dx_assign rfl rfl) rfl rfl ?_
        refine WL.val (dx_assign rfl rfl) rfl rfl ?_
        refine WL.nil ?_
        refine hK19 ?_
        refine WC.ret fun a_ ha_ => ?_
        exact hQ (cv_ret2 rfl (.tmp rfl) (.tmp rfl) (by rw [hlb]; exact congrArg (fun b => Value.tuple #[.int .i64 (i : Int), .bool b]) (decide_eq_false (by rw [e22]; intro e_; cases e_; exact absurd rfl (by assumption))).symm) hB ha_)
    ·
      replace g20 := of_decide_eq_false g20
      refine WL.off rfl rfl rfl ?_
      refine WL.off rfl rfl rfl ?_
      refine WL.off rfl rfl rfl ?_
      refine WL.off rfl rfl rfl ?_
      refine WL.off rfl rfl rfl ?_
      refine WL.off rfl rfl rfl ?_
      refine WL.off rfl rfl rfl ?_
      refine WL.off rfl rfl rfl ?_
      refine WL.off rfl rfl rfl ?_
      refine WL.off rfl rfl rfl ?_
      refine WL.off rfl rfl rfl ?_
      refine WL.off rfl rfl rfl ?_
      refine WL.off rfl rfl rfl ?_
      refine WL.off rfl rfl rfl ?_
      refine WL.off rfl rfl rfl ?_
      refine WL.off rfl rfl rfl ?_
      refine WL.off rfl rfl rfl ?_
      refine WL.val (dx_pick rfl rfl rfl) rfl rfl ?_
      refine WL.val (dx_assign rfl rfl) rfl rfl ?_
      refine WL.val (dx_assign rfl rfl) rfl rfl ?_
      refine WL.nil ?_
      refine hK19 ?_
      refine WC.ret fun a_ ha_ => ?_
      exact hQ (cv_ret2 rfl (.tmp rfl) (.tmp rfl) (by rw [hlb]; exact congrArg (fun b => Value.tuple #[.int .i64 (i : Int), .bool b]) (decide_eq_false (by rw [List.getElem?_eq_none (by omega)]; intro e_; cases e_)).symm) hB ha_)

theorem insOT_v (rs vs : List (List Value)) (i : Nat) (B C : Nat) (u y : Value) (w : World) (hO : OwS 1 w u rs B) (hV : OwS 1 w y vs C) (hCB : C ≠ B) (hi : i ≤ rs.length) (hvs : vs ≠ []) (hsm : (rs.length + vs.length) * 16 ≤ 140737488355328) (hone : ∀ r ∈ rs, ∀ u ∈ r, u.oneCell' = true) (hvone : ∀ r ∈ vs, ∀ u ∈ r, u.oneCell' = true) :
    CW Try.prog 50 [u, .int .i64 (i : Int), y] w B fun v W => ∃ B', OwS 1 W v (rs.take i ++ (vs ++ rs.drop i)) B' ∧ (B' = B ∨ w.heap.size ≤ B') := by
  have hlt := hO.lt
  obtain ⟨sp, rfl, h1⟩ := hO.open
  obtain ⟨vp, rfl, h2⟩ := hV.open
  exact insertT_v rs sp vs vp i B C w [] (fun x hx => by rw [List.mem_singleton.1 hx]; exact hlt) h1 h2 hCB hi hvs hsm hone hvone
theorem insNT_v (vs : List (List Value)) (C : Nat) (y : Value) (w : World) (i : Int) (hi : i = 0) (hV : OwS 1 w y vs C) (hvs : vs ≠ []) (hsm : vs.length * 16 ≤ 140737488355328) : CV Try.prog 50 [.slice none 0 0, .int .i64 i, y] w fun v W => ∃ B, w.heap.size ≤ B ∧ OwS 1 W v vs B := by
  subst hi
  obtain ⟨vp, rfl, h2⟩ := hV.open
  exact insertNT_v vs vp C w [] (LL.nil _) h2 hvs hsm
theorem insOV_v (rs vs : List (List Value)) (i : Nat) (B C : Nat) (u y : Value) (w : World) (hO : OwS 5 w u rs B) (hV : OwS 5 w y vs C) (hCB : C ≠ B) (hi : i ≤ rs.length) (hvs : vs ≠ []) (hsm : (rs.length + vs.length) * 80 ≤ 140737488355328) (hone : ∀ r ∈ rs, ∀ u ∈ r, u.oneCell' = true) (hvone : ∀ r ∈ vs, ∀ u ∈ r, u.oneCell' = true) :
    CW Try.prog 51 [u, .int .i64 (i : Int), y] w B fun v W => ∃ B', OwS 5 W v (rs.take i ++ (vs ++ rs.drop i)) B' ∧ (B' = B ∨ w.heap.size ≤ B') := by
  have hlt := hO.lt
  obtain ⟨sp, rfl, h1⟩ := hO.open
  obtain ⟨vp, rfl, h2⟩ := hV.open
  exact insertV_v rs sp vs vp i B C w [] (fun x hx => by rw [List.mem_singleton.1 hx]; exact hlt) h1 h2 hCB hi hvs hsm hone hvone
theorem insNV_v (vs : List (List Value)) (C : Nat) (y : Value) (w : World) (i : Int) (hi : i = 0) (hV : OwS 5 w y vs C) (hvs : vs ≠ []) (hsm : vs.length * 80 ≤ 140737488355328) : CV Try.prog 51 [.slice none 0 0, .int .i64 i, y] w fun v W => ∃ B, w.heap.size ≤ B ∧ OwS 5 W v vs B := by
  subst hi
  obtain ⟨vp, rfl, h2⟩ := hV.open
  exact insertNV_v vs vp C w [] (LL.nil _) h2 hvs hsm
end Go.Proofs.Ytpinidlfcifeeaa
namespace Go.Proofs.Ytpinidlfcifeeaa
open Go.RowKit
set_option linter.unusedVariables false
set_option linter.unusedSimpArgs false
set_option maxRecDepth 8000

abbrev StO := List ByteArray × List Js
def pairN (s : ByteArray) (vs : Nat → Except Int (Js × Nat)) (nm : ByteArray) (k1 : Nat) (st : StO) : Except Int (StO × Nat) :=
  if st.1[lbT nm st.1]? = some nm then .error 6 else if takeS s (blankS s k1) 58 = true then (match vs (blankS s (blankS s k1 + 1)) with
    | .error e => .error e
    | .ok (t, k5) => .ok ((insA (lbT nm st.1) nm st.1, insA (lbT nm st.1) t st.2), k5)) else .error 2
def pairS (s : ByteArray) (vs : Nat → Except Int (Js × Nat)) (k : Nat) (st : StO) : Except Int (StO × Nat) :=
  if takeS s k 34 = true then (match quoS s k with
    | none => .error 2
    | some (l, k1) => pairN s vs (strOfNums l) k1 st) else .error 2
section
variable {s nm : ByteArray} {vs : Nat → Except Int (Js × Nat)} {k k1 k2 k3 k4 k5 a : Nat} {st : StO} {l : List Int} {e c d : Int} {t : Js}
theorem pairS_0 (h : takeS s k 34 = false) : pairS s vs k st = .error 2 := by unfold pairS; rw [h]; rfl
theorem pairS_q (h : takeS s k 34 = true) (hq : quoS s k = none) : pairS s vs k st = .error 2 := by unfold pairS; rw [h, if_pos rfl, hq]
theorem pairS_n (h : takeS s k 34 = true) (hq : quoS s k = some (l, k1)) (hn : nm = strOfNums l) : pairS s vs k st = pairN s vs nm k1 st := by subst hn; unfold pairS; rw [h, if_pos rfl, hq]
theorem pairN_t (ha : a = lbT nm st.1) (h : st.1[a]? = some nm) : pairN s vs nm k1 st = .error 6 := by subst ha; unfold pairN; rw [if_pos h]
theorem pairN_c (ha : a = lbT nm st.1) (h : ¬ st.1[a]? = some nm) (e2 : k2 = blankS s k1) (q : takeS s k2 58 = false) : pairN s vs nm k1 st = .error 2 := by subst ha e2; unfold pairN; rw [if_neg h, q]; rfl
theorem pairN_e (ha : a = lbT nm st.1) (h : ¬ st.1[a]? = some nm) (e2 : k2 = blankS s k1) (q : takeS s k2 58 = true) (e3 : k3 = k2 + 1) (e4 : k4 = blankS s k3) (hv : vs k4 = .error e) : pairN s vs nm k1 st = .error e := by subst ha e4 e3 e2; unfold pairN; rw [if_neg h, q, if_pos rfl, hv]
theorem pairN_k (ha : a = lbT nm st.1) (h : ¬ st.1[a]? = some nm) (e2 : k2 = blankS s k1) (q : takeS s k2 58 = true) (e3 : k3 = k2 + 1) (e4 : k4 = blankS s k3) (hv : vs k4 = .ok (t, k5)) : pairN s vs nm k1 st = .ok ((insA a nm st.1, insA a t st.2), k5) := by subst ha e4 e3 e2; unfold pairN; rw [if_neg h, q, if_pos rfl, hv]
theorem take_nc (h2 : k < s.size → c = atS s k) (h : ¬ c = d) : takeS s k d = false := by
  unfold takeS
  cases hlt : decide (k < s.size) with
  | false => rfl
  | true => rw [Bool.true_and]; exact decide_eq_false (fun e => h ((h2 (of_decide_eq_true hlt)).trans e))
end
/-- Names and items that a call gathers: nil, or rows of its own in two blocks, whose trees lie elsewhere. -/
def MembI (n b : Nat) (L : List Nat) (nv : Value) (ns : List ByteArray) (iv : Value) (ts : List Tr) (W : World) : Prop := (∀ x ∈ L, x < b) ∧ ((nv = .slice none 0 0 ∧ iv = .slice none 0 0 ∧ ns = [] ∧ ts = []) ∨ ∃ Bn Bi, Bn ≠ Bi ∧ b ≤ Bn ∧ b ≤ Bi ∧ OwS 1 W nv (ns.map eS) Bn ∧ OwS 5 W iv (ts.map encT) Bi ∧ RdTs n (Bn :: Bi :: L) W ts)
theorem MembI.chgL {n b : Nat} {L : List Nat} {nv iv : Value} {ns : List ByteArray} {ts : List Tr} {W W' : World} (h : MembI n b L nv ns iv ts W) {P : Nat} (g : Chg P W W') (hP : P ∈ L) : MembI n b L nv ns iv ts W' := by
  obtain ⟨h0, h | ⟨Bn, Bi, h1, h2, h3, h4, h5, h6⟩⟩ := h
  · exact ⟨h0, .inl h⟩
  · have := h0 P hP
    exact ⟨h0, .inr ⟨Bn, Bi, h1, h2, h3, h4.chgL g (by omega), h5.chgL g (by omega), h6.chgL g (.tail _ (.tail _ hP))⟩⟩
theorem MembI.below {n b : Nat} {L : List Nat} {nv iv : Value} {ns : List ByteArray} {ts : List Tr} {W W' : World} (h : MembI n b L nv ns iv ts W) (g : Below W.heap.size W W') : MembI n b L nv ns iv ts W' := by
  obtain ⟨h0, h | ⟨Bn, Bi, h1, h2, h3, h4, h5, h6⟩⟩ := h
  · exact ⟨h0, .inl h⟩
  · exact ⟨h0, .inr ⟨Bn, Bi, h1, h2, h3, h4.below g, h5.below g, h6.below g⟩⟩
theorem MembI.only {n b : Nat} {L : List Nat} {nv iv : Value} {ns : List ByteArray} {ts : List Tr} {W W' : World} (h : MembI n b L nv ns iv ts W) {C : Nat} (g : Only C W W') (hC : C ∈ L) : MembI n b L nv ns iv ts W' := by
  obtain ⟨h0, h | ⟨Bn, Bi, h1, h2, h3, h4, h5, h6⟩⟩ := h
  · exact ⟨h0, .inl h⟩
  · have := h0 C hC
    exact ⟨h0, .inr ⟨Bn, Bi, h1, h2, h3, h4.other g (by omega), h5.other g (by omega), h6.only g (.tail _ (.tail _ hC))⟩⟩
theorem MembI.one {n b : Nat} {L : List Nat} {nv iv : Value} {ns : List ByteArray} {ts : List Tr} {W : World} (h : MembI n b L nv ns iv ts W) : nv.oneCell' = true ∧ iv.oneCell' = true := by
  obtain ⟨h0, ⟨rfl, rfl, _⟩ | ⟨Bn, Bi, h1, h2, h3, h4, h5, h6⟩⟩ := h
  · exact ⟨rfl, rfl⟩
  · exact ⟨h4.one, h5.one⟩
theorem MembI.tree {n b : Nat} {L L' : List Nat} {nv iv : Value} {ns : List ByteArray} {ts : List Tr} {W : World} (h : MembI n b L nv ns iv ts W) (hl : ∀ x, x ∈ L' → x ∈ L) (k m : Int) (t : ByteArray) : RdT (n + 1) L' W (.mk k m t nv ns iv ts) := by
  obtain ⟨h0, ⟨rfl, rfl, rfl, rfl⟩ | ⟨Bn, Bi, h1, h2, h3, h4, h5, h6⟩⟩ := h
  · exact ⟨RdF.nil (by decide), RdF.nil (by decide), fun c hc => by cases hc⟩
  · exact ⟨h4.rd (fun hx => by have := h0 Bn (hl Bn hx); omega), h5.rd (fun hx => by have := h0 Bi (hl Bi hx); omega), fun c hc => (h6 c hc).less fun x hx => .tail _ (.tail _ (hl x hx))⟩
abbrev vO (nv iv : Value) : List Value := [.int .i64 6, .int .i64 0, .string ⟨#[]⟩, nv, iv]
def PairI (n b V : Nat) (L : List Nat) (st : StO) (W : World) : Prop := ∃ nv iv ts, ts.map Tr.er = st.2 ∧ Rises st.1 ∧ st.1.length = ts.length ∧ Blk W V (vO nv iv) ∧ MembI n b L nv st.1 iv ts W
def ObjI (n b Bp V P : Nat) (L : List Nat) (st : StO) (W : World) : Prop := Blk W Bp [.pointer (some ⟨P, 0, none⟩)] ∧ PairI n b V L st W
theorem fiveO {V : Nat} {nv iv : Value} {W : World} (h : Blk W V (vO nv iv)) (h1 : nv.oneCell' = true) (h2 : iv.oneCell' = true) : FiveE V W := ⟨_, rfl, oc_cons rfl (oc_cons rfl (oc_cons rfl (oc_cons h1 (oc_cons h2 oc_nil)))), h⟩
theorem objI_five {n b Bp V P : Nat} {L : List Nat} : ∀ (st : StO) (W : World), ObjI n b Bp V P L st W → FiveE V W := fun _ _ ⟨_, _, _, _, _, _, _, h2, h3⟩ => fiveO h2 h3.one.1 h3.one.2
theorem objI_chg {n b Bp V P : Nat} {L : List Nat} (h1 : Bp ≠ P) (h2 : V ≠ P) (hP : P ∈ L) : ∀ (st : StO) (W W' : World), ObjI n b Bp V P L st W → Chg P W W' → ObjI n b Bp V P L st W' := fun _ _ _ ⟨a1, nv, iv, ts, he, hr, hl, a2, a3⟩ g => ⟨a1.chg g h1, nv, iv, ts, he, hr, hl, a2.chg g h2, a3.chgL g hP⟩
def objS (s : ByteArray) (vs : Nat → Except Int (Js × Nat)) (k : Nat) : Except Int (Js × Nat) := match memS s (pairS s vs) 125 k ([], []) with
  | .error e => .error e
  | .ok (st, k') => .ok (.mk 6 0 ⟨#[]⟩ st.1 st.2, k')
def H3 (A : Bool) (W0 : World) (D : Nat) (iv : Value) (rows : List (List Value)) (l8 : Bool) (W : World) : Prop := Chg D W0 W ∧ (A = false → l8 = false → OwS 5 W iv rows D)
def rel3 (A : Bool) (D : Nat) : RelL := fun k W W' => if k = 8 then (if A = true then Below W.heap.size W W' else Chg D W W') else Below W.heap.size W W'
def p7 (A : Bool) (W0 : World) (D : Nat) (tr : List Value) (u : Value) (W : World) : Prop := ∃ C, (A = false → C ≠ D) ∧ W0.heap.size ≤ C ∧ OwS 5 W u [tr] C
def p8 (A : Bool) (W0 : World) (D : Nat) (R : List (List Value)) (u : Value) (W : World) : Prop := ∃ B, ((A = false ∧ B = D) ∨ W0.heap.size ≤ B) ∧ OwS 5 W u R B
abbrev sd3 (A : Bool) (W0 : World) (V D a : Nat) (iv : Value) (tr : List Value) (R : List (List Value)) : List (Option Tmp × VS) :=
  [(some 65, .is (.pointer (some ⟨V, 0, none⟩))), (some 66, .is (.pointer (some ⟨V, 0, none⟩))), (some 67, .is (.pointer (some ⟨V, 0, none⟩))), (some 68, .is (.pointer (some ⟨V, 4, none⟩))), (some 69, .is iv), (some 70, .is (.int .i64 (a : Int))), (some 71, .is (.agg tr.toArray)), (some 72, .by (p7 A W0 D tr)), (some 73, .by (p8 A W0 D R))]
theorem p7_rel {A : Bool} {W0 W W' : World} {D i : Nat} {tr : List Value} {u : Value} (hr : rel3 A D i W W') (h : p7 A W0 D tr u W) : p7 A W0 D tr u W' := by
  obtain ⟨C, h1, h2, h3⟩ := h
  refine ⟨C, h1, h2, ?_⟩
  unfold rel3 at hr
  cases A with
  | true => simp at hr; exact h3.below hr
  | false =>
    split at hr
    · exact h3.chgL hr (h1 rfl)
    · exact h3.below hr
theorem p8_rel {A : Bool} {W0 W W' : World} {D i : Nat} {R : List (List Value)} {u : Value} (hi : i ≠ 8) (hr : rel3 A D i W W') (h : p8 A W0 D R u W) : p8 A W0 D R u W' := by
  obtain ⟨C, h1, h3⟩ := h
  unfold rel3 at hr
  rw [if_neg hi] at hr
  exact ⟨C, h1, h3.below hr⟩
theorem mono3 {A : Bool} {W0 : World} {V D a m : Nat} {iv : Value} {tr : List Value} {R : List (List Value)} {dl : List (List Nat)} : MonoL m (rel3 A D) (sd3 A W0 V D a iv tr R) dl := by
  intro i hi j hne hnd u W W' hr h
  match j, hne, h with
  | 0, _, h => exact h
  | 1, _, h => exact h
  | 2, _, h => exact h
  | 3, _, h => exact h
  | 4, _, h => exact h
  | 5, _, h => exact h
  | 6, _, h => exact h
  | 7, _, h => exact p7_rel hr h
  | 8, hne, h => exact p8_rel (fun e => hne e.symm) hr h
  | _ + 9, _, _ => exact trivial
theorem begin3 {A : Bool} {W0 : World} {D : Nat} {iv : Value} {rows : List (List Value)} (hA : A = false → OwS 5 W0 iv rows D) : H3 A W0 D iv rows false W0.drew := by
  have hb : Below W0.heap.size W0 W0.drew := below_draws (Below.refl _ _) 1
  exact ⟨(Chg.refl D W0).thenB hb, fun a _ => (hA a).below hb⟩
theorem rel_o3 {A : Bool} {D k : Nat} {W W' : World} (h8 : k ≠ 8) (h : Below W.heap.size W W') : rel3 A D k W W' := by unfold rel3; rw [if_neg h8]; exact h
theorem lit3 {A : Bool} {W0 W W' : World} {D : Nat} {iv : Value} {rows : List (List Value)} {l8 : Bool} (h : H3 A W0 D iv rows l8 W) (hb : Below W.heap.size W W') : H3 A W0 D iv rows l8 W' := ⟨h.1.thenB hb, fun a b => (h.2 a b).below hb⟩
theorem Chg.toBelow {D : Nat} {W W' : World} (h : Chg D W W') (hD : W.heap.size ≤ D) : Below W.heap.size W W' := ⟨h.os, h.tape, h.output, h.size, fun k hk => h.block k hk (by omega)⟩
theorem insN_map {α β : Type} (f : α → β) (x : α) (k : Nat) : (insA k x []).map f = [f x] := by
  unfold insA
  simp
abbrev PairAt (n : Nat) (vs : Nat → Except Int (Js × Nat)) (s : ByteArray) (dp : Nat) : Prop := ∀ (b V P : Nat) (L : List Nat) (ka : Nat) (st : StO) (W : World), LL L W → P ∈ L → V ∈ L → V ≠ P → (∀ x ∈ L, x < b) → b ≤ W.heap.size → ka ≤ s.size → Blk W P (psC s ka dp) → PairI n b V L st W → st.1.length ≤ ka →
  CX Try.prog 91 [.pointer (some ⟨P, 0, none⟩), .pointer (some ⟨V, 0, none⟩)] W (ChgV b P V) (fun v W' => (∃ k' st', v = .int .i64 0 ∧ pairS s vs ka st = .ok (st', k') ∧ ka < k' ∧ k' ≤ s.size ∧ st'.1.length ≤ k' ∧ PairI n b V L st' W' ∧ Blk W' P (psC s k' dp)) ∨ (∃ k' e, v = .int .i64 e ∧ e ≠ 0 ∧ pairS s vs ka st = .error e ∧ k' ≤ s.size ∧ FiveE V W' ∧ Blk W' P (psC s k' dp)))
abbrev ObjAt (n : Nat) (vs : Nat → Except Int (Js × Nat)) (s : ByteArray) (dp : Nat) : Prop := ∀ (b Bp V P : Nat) (L : List Nat) (ka : Nat) (st : StO) (W : World), LL L W → P ∈ L → V ∈ L → Bp ∈ L → Bp ≠ P → V ≠ P → Bp ≠ V → (∀ x ∈ L, x < b) → b ≤ W.heap.size → ka ≤ s.size → Blk W P (psC s ka dp) → ObjI n b Bp V P L st W → st.1.length ≤ ka →
  CX Try.prog 90 [.pointer (some ⟨Bp, 0, none⟩), .pointer (some ⟨V, 0, none⟩)] W (ChgV b P V) (fun v W' => (∃ k' st', v = .int .i64 0 ∧ pairS s vs ka st = .ok (st', k') ∧ ka < k' ∧ k' ≤ s.size ∧ st'.1.length ≤ k' ∧ ObjI n b Bp V P L st' W' ∧ Blk W' P (psC s k' dp)) ∨ (∃ k' e, v = .int .i64 e ∧ e ≠ 0 ∧ pairS s vs ka st = .error e ∧ k' ≤ s.size ∧ FiveE V W' ∧ Blk W' P (psC s k' dp)))
theorem bsearchA_v (ts : List ByteArray) (x : ByteArray) (tv : Value) (w : World) (L : List Nat) (hL : LL L w) (h3 : RdF 1 L w tv (ts.map eS)) (hr : Rises ts) (hsm : ts.length ≤ 1000000000000) : CV Try.prog 49 [tv, .string x] w fun v W => ∃ k : Nat, k = lbT x ts ∧ k ≤ ts.length ∧ v = .tuple #[.int .i64 (k : Int), .bool (decide (ts[k]? = some x))] :=
  (bsearch_v ts x tv w L hL h3 hr hsm).mono fun v w' _ h => ⟨_, rfl, lbT_le x ts, h⟩
set_option maxHeartbeats 1000000 in
theorem pair_v (n : Nat) (vs : Nat → Except Int (Js × Nat)) (s : ByteArray) (dp : Nat) (hs : s.size ≤ 1000000) (hv : ValAt (n + 1) vs s dp) : PairAt (n + 1) vs s dp := by
  intro b V P L ka st w hL hPL hVL hVP hLb hbw hk hp hI hlka
  obtain ⟨ns, js⟩ := st
  obtain ⟨nv, iv, ts, he, hris, hlen, hV, hI0, hI⟩ := hI
  simp only at he hris hlen hlka hI
  subst he
  have hsm : ts.length ≤ 1000000 := by omega
  rcases hI with ⟨rfl, rfl, rfl, rfl⟩ | ⟨Bn, Bi, hni, hbn, hbi, hOn, hOi, hts⟩
  ·
    refine cx_enter (N := 76) (f := [(0, .pointer (some ⟨P, 0, none⟩)), (1, .pointer (some ⟨V, 0, none⟩))]) Try.func91 rfl rfl rfl rfl fun Q hQ hE_ => ?_
    have hB := ChgV.refl b P V w
    refine WC.seq fun K1 hK1 => ?_
    refine WC.region ?_
    refine WL.val (dx_assign rfl rfl) rfl rfl ?_
    refine WL.nil ?_
    refine hK1 ?_
    refine WC.seq fun K2 hK2 => ?_
    refine WC.seq fun K3 hK3 => ?_
    refine WC.region ?_
    refine WL.val (dx_move rfl rfl) rfl rfl ?_
    refine WL.val (dx_nilCheck rfl rfl) rfl rfl ?_
    refine WL.val (dx_fld (o1 := 0) rfl ty_fld_55_0_0 rfl rfl) rfl rfl ?_
    refine WL.get (dx_cv rfl Try.func59 rfl rfl rfl (peek_c s P ka dp w _ hL hPL hs (by omega) hp)) rfl rfl ?_
    rintro _ W25 ⟨⟨c19, rfl, hc20, hc21, hc22, hc23⟩, b24⟩
    replace hp := hp.below b24
    replace hV := hV.below b24
    replace hB := hB.both (.of_below (b24.mono (Nat.le_trans hbw hB.size)))
    replace hL := LL.below hL b24
    refine WL.val (dx_neq rfl rfl rfl) rfl rfl ?_
    refine WL.nil ?_
    refine hK3 ?_
    refine WC.cond rfl (fun c26 => ?_) (fun c26 => ?_)
    ·
      replace c26 := bnot_t c26
      replace c26 := of_decide_eq_false c26
      refine WC.seq fun K27 hK27 => ?_
      refine WC.region ?_
      refine WL.val (dx_assign rfl rfl) rfl rfl ?_
      refine WL.nil ?_
      refine hK27 ?_
      refine WC.ret fun a_ ha_ => ?_
      exact hQ (cx_ret1 rfl (.tmp rfl) (.inr ⟨ka, 2, rfl, by decide, pairS_0 (take_nc hc22 (by assumption)), by omega, (fiveO hV rfl rfl), hp⟩) hB ha_)
    ·
      replace c26 := bnot_f c26
      replace c26 := of_decide_eq_true c26
      refine WC.skip ?_
      refine hK2 ?_
      refine WC.seq fun K28 hK28 => ?_
      refine WC.region ?_
      refine WL.val (dx_move rfl rfl) rfl rfl ?_
      refine WL.get (dx_cw rfl Try.func62 rfl rfl rfl (quoted_v s P ka dp W25 _ hL hPL hs (by omega) hp (take_of (by rcases Nat.lt_or_ge ka s.size with h_ | h_; exact h_; (have := hc23 h_; omega)) (by have h_ : ka < s.size := (by rcases Nat.lt_or_ge ka s.size with h_ | h_; exact h_; (have := hc23 h_; omega)); have := hc22 h_; omega)))) rfl rfl ?_
      rintro _ W56 ⟨(⟨k42, l44, rfl, hw45, hw46, hw47, hw48, hw49, hp57⟩ | ⟨k43, rfl, hw50, hw51, hp57⟩), g55⟩
      ·
        replace hV := hV.chg g55 hVP
        replace hB := hB.chg g55 (Nat.le_trans hbw hB.size)
        replace hL := hL.chg g55
        obtain ⟨nm54, hnm⟩ : ∃ x, x = strOfNums l44 := ⟨_, rfl⟩
        rw [← hnm]
        refine WL.val (dx_move rfl rfl) rfl rfl ?_
        refine WL.val (dx_extract rfl rfl rfl) rfl rfl ?_
        refine WL.val (dx_extract rfl rfl rfl) rfl rfl ?_
        refine WL.val (dx_assign rfl rfl) rfl rfl ?_
        refine WL.val (dx_assign rfl rfl) rfl rfl ?_
        refine WL.nil ?_
        refine hK28 ?_
        refine WC.seq fun K58 hK58 => ?_
        refine WC.seq fun K59 hK59 => ?_
        refine WC.region ?_
        refine WL.val (dx_move rfl rfl) rfl rfl ?_
        refine WL.val (dx_neq rfl rfl rfl) rfl rfl ?_
        refine WL.nil ?_
        refine hK59 ?_
        refine WC.condF rfl ?_
        refine WC.skip ?_
        refine hK58 ?_
        refine WC.seq fun K60 hK60 => ?_
        refine WC.region ?_
        refine WL.val (dx_move rfl rfl) rfl rfl ?_
        refine WL.val (dx_nilCheck rfl rfl) rfl rfl ?_
        refine WL.val (dx_fld (o1 := 3) rfl ty_fld_26_3_3 rfl rfl) rfl rfl ?_
        refine WL.val (dx_load rfl ty_one_23 rfl (hV.cell (k := 3) rfl)) rfl rfl ?_
        refine WL.val (dx_move rfl rfl) rfl rfl ?_
        refine WL.get (dx_cv rfl Try.func49 rfl rfl rfl (bsearchA_v ([] : List ByteArray) nm54 _ W56 [] (LL.nil _) (RdF.nil (L := []) (by decide)) hris (by first | omega | simp))) rfl rfl ?_
        rintro _ W62 ⟨⟨at_, hat, hatl, rfl⟩, b61⟩
        replace hp57 := hp57.below b61
        replace hV := hV.below b61
        replace hB := hB.both (.of_below (b61.mono (Nat.le_trans hbw hB.size)))
        replace hL := LL.below hL b61
        have hat0 : at_ = 0 := by simpa using hatl
        refine WL.val (dx_move rfl rfl) rfl rfl ?_
        refine WL.val (dx_extract rfl rfl rfl) rfl rfl ?_
        refine WL.val (dx_extract rfl rfl rfl) rfl rfl ?_
        refine WL.val (dx_assign rfl rfl) rfl rfl ?_
        refine WL.val (dx_assign rfl rfl) rfl rfl ?_
        refine WL.nil ?_
        refine hK60 ?_
        refine WC.seq fun K63 hK63 => ?_
        refine WC.seq fun K64 hK64 => ?_
        refine WC.region ?_
        refine WL.val (dx_move rfl rfl) rfl rfl ?_
        refine WL.nil ?_
        refine hK64 ?_
        refine WC.cond rfl (fun c65 => ?_) (fun c65 => ?_)
        ·
          replace c65 := of_decide_eq_true c65
          refine WC.seq fun K66 hK66 => ?_
          refine WC.region ?_
          refine WL.val (dx_assign rfl rfl) rfl rfl ?_
          refine WL.nil ?_
          refine hK66 ?_
          refine WC.ret fun a_ ha_ => ?_
          exact hQ (cx_ret1 rfl (.tmp rfl) (.inr ⟨k42, 6, rfl, by decide, (pairS_n (take_of (by rcases Nat.lt_or_ge ka s.size with h_ | h_; exact h_; (have := hc23 h_; omega)) (by have h_ : ka < s.size := (by rcases Nat.lt_or_ge ka s.size with h_ | h_; exact h_; (have := hc23 h_; omega)); have := hc22 h_; omega)) hw45 hnm).trans (pairN_t hat (by assumption)), by omega, (fiveO hV rfl rfl), hp57⟩) hB ha_)
        ·
          replace c65 := of_decide_eq_false c65
          refine WC.skip ?_
          refine hK63 ?_
          refine WC.seq fun K67 hK67 => ?_
          refine WC.region ?_
          refine WL.val (dx_move rfl rfl) rfl rfl ?_
          refine WL.val (dx_nilCheck rfl rfl) rfl rfl ?_
          refine WL.val (dx_fld (o1 := 0) rfl ty_fld_55_0_0 rfl rfl) rfl rfl ?_
          refine WL.get (dx_cw rfl Try.func33 rfl rfl rfl (blanks_v s P k42 dp W62 _ hL hPL hs (by omega) hp57)) rfl rfl ?_
          rintro _ W78 ⟨hp79, g77⟩
          replace hV := hV.chg g77 hVP
          replace hB := hB.chg g77 (Nat.le_trans hbw hB.size)
          replace hL := hL.chg g77
          obtain ⟨k74, hk75⟩ : ∃ k, k = blankS s k42 := ⟨_, rfl⟩
          rw [← hk75] at hp79
          have hk76 := blankS_le (s := s) (k := k42) (by omega)
          rw [← hk75] at hk76
          refine WL.nil ?_
          refine hK67 ?_
          refine WC.seq fun K80 hK80 => ?_
          refine WC.seq fun K81 hK81 => ?_
          refine WC.region ?_
          refine WL.val (dx_move rfl rfl) rfl rfl ?_
          refine WL.val (dx_nilCheck rfl rfl) rfl rfl ?_
          refine WL.val (dx_fld (o1 := 0) rfl ty_fld_55_0_0 rfl rfl) rfl rfl ?_
          refine WL.get (dx_cw rfl Try.func58 rfl rfl rfl (take_v 58 s P k74 dp W78 _ hL hPL hs (by omega) hp79)) rfl rfl ?_
          rintro _ W92 ⟨⟨k88, rfl, hk89, hk90, hp93⟩, g91⟩
          replace hV := hV.chg g91 hVP
          replace hB := hB.chg g91 (Nat.le_trans hbw hB.size)
          replace hL := hL.chg g91
          cases hT94 : takeS s k74 58 with
          | false =>
            rw [hT94] at hk89
            replace hk89 : k74 = k88 := Eq.symm hk89
            subst hk89
            refine WL.val (dx_not rfl rfl) rfl rfl ?_
            refine WL.nil ?_
            refine hK81 ?_
            refine WC.condT rfl ?_
            refine WC.seq fun K95 hK95 => ?_
            refine WC.region ?_
            refine WL.val (dx_assign rfl rfl) rfl rfl ?_
            refine WL.nil ?_
            refine hK95 ?_
            refine WC.ret fun a_ ha_ => ?_
            exact hQ (cx_ret1 rfl (.tmp rfl) (.inr ⟨k74, 2, rfl, by decide, (pairS_n (take_of (by rcases Nat.lt_or_ge ka s.size with h_ | h_; exact h_; (have := hc23 h_; omega)) (by have h_ : ka < s.size := (by rcases Nat.lt_or_ge ka s.size with h_ | h_; exact h_; (have := hc23 h_; omega)); have := hc22 h_; omega)) hw45 hnm).trans (by apply pairN_c (a := at_) <;> first | assumption | omega), by omega, (fiveO hV rfl rfl), hp93⟩) hB ha_)
          | true =>
            rw [hT94] at hk89
            have hthT94 := take_t hT94
            replace hk89 : k88 = k74 + 1 := hk89
            refine WL.val (dx_not rfl rfl) rfl rfl ?_
            refine WL.nil ?_
            refine hK81 ?_
            refine WC.condF rfl ?_
            refine WC.skip ?_
            refine hK80 ?_
            refine WC.seq fun K96 hK96 => ?_
            refine WC.region ?_
            refine WL.val (dx_move rfl rfl) rfl rfl ?_
            refine WL.val (dx_nilCheck rfl rfl) rfl rfl ?_
            refine WL.val (dx_fld (o1 := 0) rfl ty_fld_55_0_0 rfl rfl) rfl rfl ?_
            refine WL.get (dx_cw rfl Try.func33 rfl rfl rfl (blanks_v s P k88 dp W92 _ hL hPL hs (by omega) hp93)) rfl rfl ?_
            rintro _ W107 ⟨hp108, g106⟩
            replace hV := hV.chg g106 hVP
            replace hB := hB.chg g106 (Nat.le_trans hbw hB.size)
            replace hL := hL.chg g106
            obtain ⟨k103, hk104⟩ : ∃ k, k = blankS s k88 := ⟨_, rfl⟩
            rw [← hk104] at hp108
            have hk105 := blankS_le (s := s) (k := k88) (by omega)
            rw [← hk104] at hk105
            refine WL.nil ?_
            refine hK96 ?_
            refine WC.seq fun K109 hK109 => ?_
            refine WC.region ?_
            refine WL.val (dx_move rfl rfl) rfl rfl ?_
            refine WL.get (dx_cw rfl Try.func34 rfl rfl rfl (hv P k103 W107 _ hL hPL (by omega) hp108)) rfl rfl ?_
            rintro _ W137 ⟨(⟨k123, t125, rfl, hw127, hw128, hw129, hw130, hp138⟩ | ⟨k124, e126, rfl, hw131, hw132, hw133, hp138⟩), g136⟩
            ·
              replace hV := hV.chg g136 hVP
              replace hB := hB.chg g136 (Nat.le_trans hbw hB.size)
              replace hL := hL.chg g136
              refine WL.val (dx_move rfl rfl) rfl rfl ?_
              refine WL.val (dx_extract rfl rfl rfl) rfl rfl ?_
              refine WL.val (dx_extract rfl rfl rfl) rfl rfl ?_
              refine WL.get (dx_alloc rfl ty_zero_26 rfl) rfl rfl ?_
              rintro _ W139 ⟨rfl, k140, b141, z142⟩
              have n143 : P ≠ W137.heap.size := Nat.ne_of_lt hp138.lt
              have n144 : V ≠ W137.heap.size := Nat.ne_of_lt hV.lt
              have l145 := hB.size
              replace hw128 := hw128.more b141 (Nat.le_refl _)
              replace hp138 := hp138.below b141
              replace hV := hV.below b141
              replace hB := hB.both (.of_below (b141.mono (Nat.le_trans hbw hB.size)))
              replace hL := LL.more hL z142
              refine WL.do (dx_store (cs' := [.int .i64 t125.kind, .int .i64 t125.num, .string t125.text, t125.nv, t125.iv]) (vs := [.int .i64 t125.kind, .int .i64 t125.num, .string t125.text, t125.nv, t125.iv]) rfl ty_size_26_5 rfl rfl rfl (oc_cons rfl (oc_cons rfl (oc_cons rfl (oc_cons (hw128.1).one (oc_cons (hw128.2.1).one oc_nil))))) k140 rfl (Nat.le_of_ble_eq_true rfl) rfl) rfl ?_
              rintro _ W146 ⟨k148, o147⟩
              replace hp138 := hp138.other o147 n143
              replace hV := hV.other o147 n144
              clear k140
              replace hw128 := hw128.only o147 (.head _)
              replace hB := hB.both (.of_only o147 (.inr (.inr (Nat.le_trans hbw l145))))
              replace hL := LL.only hL o147
              refine WL.val (dx_assign rfl rfl) rfl rfl ?_
              refine WL.nil ?_
              refine hK109 ?_
              refine WC.seq fun K149 hK149 => ?_
              refine WC.seq fun K150 hK150 => ?_
              refine WC.region ?_
              refine WL.val (dx_move rfl rfl) rfl rfl ?_
              refine WL.val (dx_neq rfl rfl rfl) rfl rfl ?_
              refine WL.nil ?_
              refine hK150 ?_
              refine WC.condF rfl ?_
              refine WC.skip ?_
              refine hK149 ?_
              refine WC.seq fun K151 hK151 => ?_
              refine WC.region ?_
              refine WL.val (dx_move rfl rfl) rfl rfl ?_
              refine WL.val (dx_move rfl rfl) rfl rfl ?_
              refine WL.val (dx_nilCheck rfl rfl) rfl rfl ?_
              refine WL.val (dx_fld (o1 := 3) rfl ty_fld_26_3_3 rfl rfl) rfl rfl ?_
              refine WL.val (dx_load rfl ty_one_23 rfl (hV.cell (k := 3) rfl)) rfl rfl ?_
              refine WL.val (dx_move rfl rfl) rfl rfl ?_
              refine WL.val (dx_move rfl rfl) rfl rfl ?_
              refine WL.get (dx_lit1 (r := [.string nm54]) rfl ty_ap_23 (by decide) (by decide) rfl rfl rfl) rfl rfl ?_
              rintro u156 W152 ⟨k153, b154, z155⟩
              have n157 : P ≠ W146.heap.size := Nat.ne_of_lt hp138.lt
              have n158 : V ≠ W146.heap.size := Nat.ne_of_lt hV.lt
              have n159 : W137.heap.size ≠ W146.heap.size := Nat.ne_of_lt k148.lt
              have l160 := hB.size
              replace hw128 := hw128.more b154 (Nat.le_refl _)
              replace hp138 := hp138.below b154
              replace hV := hV.below b154
              replace k148 := k148.below b154
              replace hB := hB.both (.of_below (b154.mono (Nat.le_trans hbw hB.size)))
              replace hL := LL.more hL z155
              refine WL.get (dx_cv rfl Try.func50 rfl rfl rfl (insNT_v [eS nm54] W146.heap.size _ W152 _ (by omega) k153 (by simp) (by simp))) rfl rfl ?_
              rintro x161 W162 ⟨⟨B163, l168, k164⟩, g167⟩
              have n170 : P ≠ B163 := Nat.ne_of_lt (Nat.lt_of_lt_of_le hp138.lt l168)
              have n171 : V ≠ B163 := Nat.ne_of_lt (Nat.lt_of_lt_of_le hV.lt l168)
              have n172 : W137.heap.size ≠ B163 := Nat.ne_of_lt (Nat.lt_of_lt_of_le k148.lt l168)
              have n173 : W146.heap.size ≠ B163 := Nat.ne_of_lt (Nat.lt_of_lt_of_le k153.lt l168)
              have l174 := Nat.le_trans hB.size l168
              replace hw128 := hw128.more g167 l168
              replace hp138 := hp138.below g167
              replace hV := hV.below g167
              replace k148 := k148.below g167
              replace k153 := k153.below g167
              replace hB := hB.both (.of_below (g167.mono (Nat.le_trans hbw hB.size)))
              replace hL := LL.cons (LL.below hL g167) k164.lt
              rw [show [eS nm54] = ((insA at_ nm54 ([] : List ByteArray)).map eS) from (insN_map _ _ _).symm] at k164
              refine WL.val (dx_nilCheck rfl rfl) rfl rfl ?_
              refine WL.val (dx_fld (o1 := 3) rfl ty_fld_26_3_3 rfl rfl) rfl rfl ?_
              refine WL.do (dx_store (cs' := [.int .i64 6, .int .i64 0, .string ⟨#[]⟩, x161, .slice none 0 0]) (vs := [x161]) rfl ty_size_23_1 rfl rfl (oc_one k164.one) (oc_cons k164.one oc_nil) hV rfl (Nat.le_of_ble_eq_true rfl) rfl) rfl ?_
              rintro _ W175 ⟨k177, o176⟩
              replace hp138 := hp138.other o176 hVP.symm
              replace k148 := k148.other o176 n144.symm
              replace k153 := k153.other o176 n158.symm
              replace k164 := k164.other o176 n171.symm
              clear hV
              replace hw128 := hw128.only o176 (.tail _ (.tail _ (.tail _ hVL)))
              replace hB := hB.both (.of_only o176 (.inr (.inl rfl)))
              replace hL := LL.only hL o176
              refine WL.nil ?_
              refine hK151 ?_
              refine WC.seq fun K178 hK178 => ?_
              have hsW := hB.size
              refine WC.drawL (fun L_ W_ => H3 true W175 (W175.heap.size) (.slice none 0 0) [] (L_ 8) W_) 9 (rel3 true (W175.heap.size)) (sd3 true W175 V (W175.heap.size) at_ (.slice none 0 0) (encT t125) (([] : List (List Value)).take at_ ++ ([(encT t125)] ++ ([] : List (List Value)).drop at_))) [[], [], [1], [2], [3], [], [], [6], [4, 5, 7]] (by kernel_rfl) (by kernel_rfl) (by kernel_rfl) (by kernel_rfl) (by kernel_rfl) (by kernel_rfl) (by kernel_rfl) (begin3 (fun h => by cases h)) mono3 ?_ ?_
              ·
                refine ⟨fun L_ Wd hl hn hG => ?_, ?_⟩
                ·
                  replace hG : H3 true W175 (W175.heap.size) (.slice none 0 0) [] (L_ 8) Wd := hG
                  exact DV.dr (dx_move rfl rfl) ⟨rel_o3 (by decide) (Below.refl _ _), hG, rfl⟩
                refine ⟨fun L_ Wd hl hn hG => ?_, ?_⟩
                ·
                  replace hG : H3 true W175 (W175.heap.size) (.slice none 0 0) [] (L_ 8) Wd := hG
                  exact DV.dr (dx_move rfl rfl) ⟨rel_o3 (by decide) (Below.refl _ _), hG, rfl⟩
                refine ⟨fun L_ Wd hl hn hG => ?_, ?_⟩
                ·
                  replace hG : H3 true W175 (W175.heap.size) (.slice none 0 0) [] (L_ 8) Wd := hG
                  exact DV.dr (dx_nilCheck rfl rfl) ⟨rel_o3 (by decide) (Below.refl _ _), hG, rfl⟩
                refine ⟨fun L_ Wd hl hn hG => ?_, ?_⟩
                ·
                  replace hG : H3 true W175 (W175.heap.size) (.slice none 0 0) [] (L_ 8) Wd := hG
                  exact DV.dr (dx_fld (o1 := 4) rfl ty_fld_26_4_4 rfl rfl) ⟨rel_o3 (by decide) (Below.refl _ _), hG, rfl⟩
                refine ⟨fun L_ Wd hl hn hG => ?_, ?_⟩
                ·
                  replace hG : H3 true W175 (W175.heap.size) (.slice none 0 0) [] (L_ 8) Wd := hG
                  exact DV.dr (dx_load rfl ty_one_24 rfl ((k177.chg hG.1 (Nat.ne_of_lt k177.lt)).cell (k := 4) rfl)) ⟨rel_o3 (by decide) (Below.refl _ _), hG, rfl⟩
                refine ⟨fun L_ Wd hl hn hG => ?_, ?_⟩
                ·
                  replace hG : H3 true W175 (W175.heap.size) (.slice none 0 0) [] (L_ 8) Wd := hG
                  exact DV.dr (dx_move rfl rfl) ⟨rel_o3 (by decide) (Below.refl _ _), hG, rfl⟩
                refine ⟨fun L_ Wd hl hn hG => ?_, ?_⟩
                ·
                  replace hG : H3 true W175 (W175.heap.size) (.slice none 0 0) [] (L_ 8) Wd := hG
                  exact DV.dr (dx_loadN (cs := (encT t125)) rfl ty_agg_26_5 rfl ((k148.chg hG.1 (Nat.ne_of_lt k148.lt)).range) rfl) ⟨rel_o3 (by decide) (Below.refl _ _), hG, rfl⟩
                refine ⟨fun L_ Wd hl hn hG => ?_, ?_⟩
                ·
                  replace hG : H3 true W175 (W175.heap.size) (.slice none 0 0) [] (L_ 8) Wd := hG
                  have h8_ := hn 8 (by decide)
                  refine (dx_lit1 (r := (encT t125)) rfl ty_ap_24 (by decide) (by decide) rfl rfl rfl).mono ?_
                  rintro u W_ ⟨k1_, k2_, k3_⟩
                  exact ⟨rel_o3 (by decide) k2_, lit3 hG k2_, ⟨Wd.heap.size, (fun h => by cases h), hG.1.size, k1_⟩⟩
                refine ⟨fun L_ Wd hl hn hG => ?_, ?_⟩
                ·
                  intro u7 q7
                  replace hG : H3 true W175 (W175.heap.size) (.slice none 0 0) [] (L_ 8) Wd := hG
                  obtain ⟨C7, c1_, c2_, c3_⟩ := q7
                  refine (dx_cv rfl Try.func51 rfl rfl rfl (insNV_v [(encT t125)] C7 _ Wd _ (by omega) c3_ (by simp) (by simp))).mono ?_
                  rintro u W_ ⟨⟨B_, g0_, k1_⟩, gc_⟩
                  exact ⟨(by unfold rel3; rw [if_pos rfl]; exact gc_), (show H3 true W175 (W175.heap.size) (.slice none 0 0) [] true W_ from ⟨hG.1.thenB gc_, fun h => by cases h⟩), ⟨B_, .inr (Nat.le_trans hG.1.size g0_), (by simpa using k1_)⟩⟩
                exact trivial
              ·
                intro We hGe
                obtain ⟨hc, -⟩ := (show H3 true W175 (W175.heap.size) (.slice none 0 0) [] true We from hGe)
                intro u7 q7 u8 q8
                obtain ⟨B179, g182, k180⟩ := q8
                clear q7
                have g181 := hc.toBelow (Nat.le_refl _)
                replace g182 : W175.heap.size ≤ B179 := by rcases g182 with h_ | h_; cases h_.1; exact h_
                rw [show (([] : List (List Value)).take at_ ++ ([(encT t125)] ++ ([] : List (List Value)).drop at_)) = ((insA at_ t125 ([] : List Tr)).map encT) from (insA_map encT at_ t125 []).symm] at k180
                have n184 : P ≠ B179 := Nat.ne_of_lt (Nat.lt_of_lt_of_le hp138.lt g182)
                have n185 : V ≠ B179 := Nat.ne_of_lt (Nat.lt_of_lt_of_le k177.lt g182)
                have n186 : W137.heap.size ≠ B179 := Nat.ne_of_lt (Nat.lt_of_lt_of_le k148.lt g182)
                have n187 : W146.heap.size ≠ B179 := Nat.ne_of_lt (Nat.lt_of_lt_of_le k153.lt g182)
                have n188 : B163 ≠ B179 := Nat.ne_of_lt (Nat.lt_of_lt_of_le k164.lt g182)
                have l189 := Nat.le_trans hB.size g182
                replace hw128 := hw128.more g181 g182
                replace hp138 := hp138.below g181
                replace k177 := k177.below g181
                replace k148 := k148.below g181
                replace k153 := k153.below g181
                replace k164 := k164.below g181
                replace hB := hB.both (.of_below (g181.mono (Nat.le_trans hbw hB.size)))
                replace hL := LL.cons (LL.below hL g181) k180.lt
                refine WL.val (dx_nilCheck rfl rfl) rfl rfl ?_
                refine WL.val (dx_fld (o1 := 4) rfl ty_fld_26_4_4 rfl rfl) rfl rfl ?_
                refine WL.do (dx_store (cs' := [.int .i64 6, .int .i64 0, .string ⟨#[]⟩, x161, u8]) (vs := [u8]) rfl ty_size_24_1 rfl rfl (oc_one k180.one) (oc_cons k180.one oc_nil) k177 rfl (Nat.le_of_ble_eq_true rfl) rfl) rfl ?_
                rintro _ W190 ⟨k192, o191⟩
                replace hp138 := hp138.other o191 hVP.symm
                replace k148 := k148.other o191 n144.symm
                replace k153 := k153.other o191 n158.symm
                replace k164 := k164.other o191 n171.symm
                replace k180 := k180.other o191 n185.symm
                clear k177
                replace hw128 := hw128.only o191 (.tail _ (.tail _ (.tail _ (.tail _ hVL))))
                replace hB := hB.both (.of_only o191 (.inr (.inl rfl)))
                replace hL := LL.only hL o191
                refine WL.nil ?_
                refine hK178 ?_
                refine WC.seq fun K193 hK193 => ?_
                refine WC.region ?_
                refine WL.val (dx_assign rfl rfl) rfl rfl ?_
                refine WL.nil ?_
                refine hK193 ?_
                refine WC.ret fun a_ ha_ => ?_
                exact hQ (cx_ret1 rfl (.tmp rfl) (.inl ⟨k123, (insA at_ nm54 ([] : List ByteArray), insA at_ t125.er ([] : List Js)), rfl, (pairS_n (take_of (by rcases Nat.lt_or_ge ka s.size with h_ | h_; exact h_; (have := hc23 h_; omega)) (by have h_ : ka < s.size := (by rcases Nat.lt_or_ge ka s.size with h_ | h_; exact h_; (have := hc23 h_; omega)); have := hc22 h_; omega)) hw45 hnm).trans (by apply pairN_k (a := at_) <;> first | assumption | omega), by omega, by omega, (by show (insA at_ nm54 ([] : List ByteArray)).length ≤ _; rw [insA_len (by omega)]; first | omega | (simp at hlka ⊢; omega)), ⟨x161, u8, insA at_ t125 [], insA_map _ _ _ _, (by rw [hat]; exact rises_ins hris (by rw [← hat]; assumption)), (by show (insA at_ nm54 ([] : List ByteArray)).length = _; rw [insA_len (by omega), insA_len (by first | omega | (simp at hatl ⊢; omega))]; first | omega | rfl), k192, hI0, .inr ⟨B163, B179, n188, by omega, by omega, k164, k180, (fun c hc_ => by rcases mem_insA.1 hc_ with rfl | h_; exact hw128.less (fun x hx => by simp only [List.mem_cons] at hx ⊢; rcases hx with h_ | h_ | h_ <;> simp [h_]); cases h_)⟩⟩, hp138⟩) hB ha_)
            ·
              replace hV := hV.chg g136 hVP
              replace hB := hB.chg g136 (Nat.le_trans hbw hB.size)
              replace hL := hL.chg g136
              refine WL.val (dx_move rfl rfl) rfl rfl ?_
              refine WL.val (dx_extract rfl rfl rfl) rfl rfl ?_
              refine WL.val (dx_extract rfl rfl rfl) rfl rfl ?_
              refine WL.get (dx_alloc rfl ty_zero_26 rfl) rfl rfl ?_
              rintro _ W194 ⟨rfl, k195, b196, z197⟩
              have n198 : P ≠ W137.heap.size := Nat.ne_of_lt hp138.lt
              have n199 : V ≠ W137.heap.size := Nat.ne_of_lt hV.lt
              have l200 := hB.size
              replace hp138 := hp138.below b196
              replace hV := hV.below b196
              replace hB := hB.both (.of_below (b196.mono (Nat.le_trans hbw hB.size)))
              replace hL := LL.more hL z197
              refine WL.do (dx_store (cs' := [.int .i64 0, .int .i64 0, .string ⟨#[]⟩, .slice none 0 0, .slice none 0 0]) (vs := [.int .i64 0, .int .i64 0, .string ⟨#[]⟩, .slice none 0 0, .slice none 0 0]) rfl ty_size_26_5 rfl rfl rfl (oc_cons rfl (oc_cons rfl (oc_cons rfl (oc_cons rfl (oc_cons rfl oc_nil))))) k195 rfl (Nat.le_of_ble_eq_true rfl) rfl) rfl ?_
              rintro _ W201 ⟨k203, o202⟩
              replace hp138 := hp138.other o202 n198
              replace hV := hV.other o202 n199
              clear k195
              replace hB := hB.both (.of_only o202 (.inr (.inr (Nat.le_trans hbw l200))))
              replace hL := LL.only hL o202
              refine WL.val (dx_assign rfl rfl) rfl rfl ?_
              refine WL.nil ?_
              refine hK109 ?_
              refine WC.seq fun K204 hK204 => ?_
              refine WC.seq fun K205 hK205 => ?_
              refine WC.region ?_
              refine WL.val (dx_move rfl rfl) rfl rfl ?_
              refine WL.val (dv_NT (dx_neq rfl rfl rfl) hw131) rfl rfl ?_
              refine WL.nil ?_
              refine hK205 ?_
              refine WC.condT rfl ?_
              refine WC.seq fun K206 hK206 => ?_
              refine WC.region ?_
              refine WL.val (dx_move rfl rfl) rfl rfl ?_
              refine WL.val (dx_assign rfl rfl) rfl rfl ?_
              refine WL.nil ?_
              refine hK206 ?_
              refine WC.ret fun a_ ha_ => ?_
              exact hQ (cx_ret1 rfl (.tmp rfl) (.inr ⟨k124, e126, rfl, hw131, (pairS_n (take_of (by rcases Nat.lt_or_ge ka s.size with h_ | h_; exact h_; (have := hc23 h_; omega)) (by have h_ : ka < s.size := (by rcases Nat.lt_or_ge ka s.size with h_ | h_; exact h_; (have := hc23 h_; omega)); have := hc22 h_; omega)) hw45 hnm).trans (by apply pairN_e (a := at_) <;> first | assumption | omega), by omega, (fiveO hV rfl rfl), hp138⟩) hB ha_)
      ·
        replace hV := hV.chg g55 hVP
        replace hB := hB.chg g55 (Nat.le_trans hbw hB.size)
        replace hL := hL.chg g55
        refine WL.val (dx_move rfl rfl) rfl rfl ?_
        refine WL.val (dx_extract rfl rfl rfl) rfl rfl ?_
        refine WL.val (dx_extract rfl rfl rfl) rfl rfl ?_
        refine WL.val (dx_assign rfl rfl) rfl rfl ?_
        refine WL.val (dx_assign rfl rfl) rfl rfl ?_
        refine WL.nil ?_
        refine hK28 ?_
        refine WC.seq fun K207 hK207 => ?_
        refine WC.seq fun K208 hK208 => ?_
        refine WC.region ?_
        refine WL.val (dx_move rfl rfl) rfl rfl ?_
        refine WL.val (dx_neq rfl rfl rfl) rfl rfl ?_
        refine WL.nil ?_
        refine hK208 ?_
        refine WC.condT rfl ?_
        refine WC.seq fun K209 hK209 => ?_
        refine WC.region ?_
        refine WL.val (dx_move rfl rfl) rfl rfl ?_
        refine WL.val (dx_assign rfl rfl) rfl rfl ?_
        refine WL.nil ?_
        refine hK209 ?_
        refine WC.ret fun a_ ha_ => ?_
        exact hQ (cx_ret1 rfl (.tmp rfl) (.inr ⟨k43, 2, rfl, by decide, pairS_q (take_of (by rcases Nat.lt_or_ge ka s.size with h_ | h_; exact h_; (have := hc23 h_; omega)) (by have h_ : ka < s.size := (by rcases Nat.lt_or_ge ka s.size with h_ | h_; exact h_; (have := hc23 h_; omega)); have := hc22 h_; omega)) hw50, by omega, (fiveO hV rfl rfl), hp57⟩) hB ha_)
  have hBnP : Bn ≠ P := by have := hLb P hPL; omega
  have hBnV : Bn ≠ V := by have := hLb V hVL; omega
  have hBiP : Bi ≠ P := by have := hLb P hPL; omega
  have hBiV : Bi ≠ V := by have := hLb V hVL; omega
  replace hL := LL.cons (LL.cons hL hOi.lt) hOn.lt
  refine cx_enter (N := 76) (f := [(0, .pointer (some ⟨P, 0, none⟩)), (1, .pointer (some ⟨V, 0, none⟩))]) Try.func91 rfl rfl rfl rfl fun Q hQ hE_ => ?_
  have hB := ChgV.refl b P V w
  refine WC.seq fun K1 hK1 => ?_
  refine WC.region ?_
  refine WL.val (dx_assign rfl rfl) rfl rfl ?_
  refine WL.nil ?_
  refine hK1 ?_
  refine WC.seq fun K2 hK2 => ?_
  refine WC.seq fun K3 hK3 => ?_
  refine WC.region ?_
  refine WL.val (dx_move rfl rfl) rfl rfl ?_
  refine WL.val (dx_nilCheck rfl rfl) rfl rfl ?_
  refine WL.val (dx_fld (o1 := 0) rfl ty_fld_55_0_0 rfl rfl) rfl rfl ?_
  refine WL.get (dx_cv rfl Try.func59 rfl rfl rfl (peek_c s P ka dp w _ hL (.tail _ (.tail _ hPL)) hs (by omega) hp)) rfl rfl ?_
  rintro _ W25 ⟨⟨c19, rfl, hc20, hc21, hc22, hc23⟩, b24⟩
  replace hts := hts.below b24
  replace hp := hp.below b24
  replace hV := hV.below b24
  replace hOn := hOn.below b24
  replace hOi := hOi.below b24
  replace hB := hB.both (.of_below (b24.mono (Nat.le_trans hbw hB.size)))
  replace hL := LL.below hL b24
  refine WL.val (dx_neq rfl rfl rfl) rfl rfl ?_
  refine WL.nil ?_
  refine hK3 ?_
  refine WC.cond rfl (fun c26 => ?_) (fun c26 => ?_)
  ·
    replace c26 := bnot_t c26
    replace c26 := of_decide_eq_false c26
    refine WC.seq fun K27 hK27 => ?_
    refine WC.region ?_
    refine WL.val (dx_assign rfl rfl) rfl rfl ?_
    refine WL.nil ?_
    refine hK27 ?_
    refine WC.ret fun a_ ha_ => ?_
    exact hQ (cx_ret1 rfl (.tmp rfl) (.inr ⟨ka, 2, rfl, by decide, pairS_0 (take_nc hc22 (by assumption)), by omega, (fiveO hV hOn.one hOi.one), hp⟩) hB ha_)
  ·
    replace c26 := bnot_f c26
    replace c26 := of_decide_eq_true c26
    refine WC.skip ?_
    refine hK2 ?_
    refine WC.seq fun K28 hK28 => ?_
    refine WC.region ?_
    refine WL.val (dx_move rfl rfl) rfl rfl ?_
    refine WL.get (dx_cw rfl Try.func62 rfl rfl rfl (quoted_v s P ka dp W25 _ hL (.tail _ (.tail _ hPL)) hs (by omega) hp (take_of (by rcases Nat.lt_or_ge ka s.size with h_ | h_; exact h_; (have := hc23 h_; omega)) (by have h_ : ka < s.size := (by rcases Nat.lt_or_ge ka s.size with h_ | h_; exact h_; (have := hc23 h_; omega)); have := hc22 h_; omega)))) rfl rfl ?_
    rintro _ W56 ⟨(⟨k42, l44, rfl, hw45, hw46, hw47, hw48, hw49, hp57⟩ | ⟨k43, rfl, hw50, hw51, hp57⟩), g55⟩
    ·
      replace hts := hts.chgL g55 (.tail _ (.tail _ hPL))
      replace hV := hV.chg g55 hVP
      replace hOn := hOn.chgL g55 hBnP
      replace hOi := hOi.chgL g55 hBiP
      replace hB := hB.chg g55 (Nat.le_trans hbw hB.size)
      replace hL := hL.chg g55
      obtain ⟨nm54, hnm⟩ : ∃ x, x = strOfNums l44 := ⟨_, rfl⟩
      rw [← hnm]
      refine WL.val (dx_move rfl rfl) rfl rfl ?_
      refine WL.val (dx_extract rfl rfl rfl) rfl rfl ?_
      refine WL.val (dx_extract rfl rfl rfl) rfl rfl ?_
      refine WL.val (dx_assign rfl rfl) rfl rfl ?_
      refine WL.val (dx_assign rfl rfl) rfl rfl ?_
      refine WL.nil ?_
      refine hK28 ?_
      refine WC.seq fun K58 hK58 => ?_
      refine WC.seq fun K59 hK59 => ?_
      refine WC.region ?_
      refine WL.val (dx_move rfl rfl) rfl rfl ?_
      refine WL.val (dx_neq rfl rfl rfl) rfl rfl ?_
      refine WL.nil ?_
      refine hK59 ?_
      refine WC.condF rfl ?_
      refine WC.skip ?_
      refine hK58 ?_
      refine WC.seq fun K60 hK60 => ?_
      refine WC.region ?_
      refine WL.val (dx_move rfl rfl) rfl rfl ?_
      refine WL.val (dx_nilCheck rfl rfl) rfl rfl ?_
      refine WL.val (dx_fld (o1 := 3) rfl ty_fld_26_3_3 rfl rfl) rfl rfl ?_
      refine WL.val (dx_load rfl ty_one_23 rfl (hV.cell (k := 3) rfl)) rfl rfl ?_
      refine WL.val (dx_move rfl rfl) rfl rfl ?_
      refine WL.get (dx_cv rfl Try.func49 rfl rfl rfl (bsearchA_v ns nm54 _ W56 [] (LL.nil _) (hOn.rd (L := []) (by simp)) hris (by first | omega | simp))) rfl rfl ?_
      rintro _ W62 ⟨⟨at_, hat, hatl, rfl⟩, b61⟩
      replace hts := hts.below b61
      replace hp57 := hp57.below b61
      replace hV := hV.below b61
      replace hOn := hOn.below b61
      replace hOi := hOi.below b61
      replace hB := hB.both (.of_below (b61.mono (Nat.le_trans hbw hB.size)))
      replace hL := LL.below hL b61
      refine WL.val (dx_move rfl rfl) rfl rfl ?_
      refine WL.val (dx_extract rfl rfl rfl) rfl rfl ?_
      refine WL.val (dx_extract rfl rfl rfl) rfl rfl ?_
      refine WL.val (dx_assign rfl rfl) rfl rfl ?_
      refine WL.val (dx_assign rfl rfl) rfl rfl ?_
      refine WL.nil ?_
      refine hK60 ?_
      refine WC.seq fun K63 hK63 => ?_
      refine WC.seq fun K64 hK64 => ?_
      refine WC.region ?_
      refine WL.val (dx_move rfl rfl) rfl rfl ?_
      refine WL.nil ?_
      refine hK64 ?_
      refine WC.cond rfl (fun c65 => ?_) (fun c65 => ?_)
      ·
        replace c65 := of_decide_eq_true c65
        refine WC.seq fun K66 hK66 => ?_
        refine WC.region ?_
        refine WL.val (dx_assign rfl rfl) rfl rfl ?_
        refine WL.nil ?_
        refine hK66 ?_
        refine WC.ret fun a_ ha_ => ?_
        exact hQ (cx_ret1 rfl (.tmp rfl) (.inr ⟨k42, 6, rfl, by decide, (pairS_n (take_of (by rcases Nat.lt_or_ge ka s.size with h_ | h_; exact h_; (have := hc23 h_; omega)) (by have h_ : ka < s.size := (by rcases Nat.lt_or_ge ka s.size with h_ | h_; exact h_; (have := hc23 h_; omega)); have := hc22 h_; omega)) hw45 hnm).trans (pairN_t hat (by assumption)), by omega, (fiveO hV hOn.one hOi.one), hp57⟩) hB ha_)
      ·
        replace c65 := of_decide_eq_false c65
        refine WC.skip ?_
        refine hK63 ?_
        refine WC.seq fun K67 hK67 => ?_
        refine WC.region ?_
        refine WL.val (dx_move rfl rfl) rfl rfl ?_
        refine WL.val (dx_nilCheck rfl rfl) rfl rfl ?_
        refine WL.val (dx_fld (o1 := 0) rfl ty_fld_55_0_0 rfl rfl) rfl rfl ?_
        refine WL.get (dx_cw rfl Try.func33 rfl rfl rfl (blanks_v s P k42 dp W62 _ hL (.tail _ (.tail _ hPL)) hs (by omega) hp57)) rfl rfl ?_
        rintro _ W78 ⟨hp79, g77⟩
        replace hts := hts.chgL g77 (.tail _ (.tail _ hPL))
        replace hV := hV.chg g77 hVP
        replace hOn := hOn.chgL g77 hBnP
        replace hOi := hOi.chgL g77 hBiP
        replace hB := hB.chg g77 (Nat.le_trans hbw hB.size)
        replace hL := hL.chg g77
        obtain ⟨k74, hk75⟩ : ∃ k, k = blankS s k42 := ⟨_, rfl⟩
        rw [← hk75] at hp79
        have hk76 := blankS_le (s := s) (k := k42) (by omega)
        rw [← hk75] at hk76
        refine WL.nil ?_
        refine hK67 ?_
        refine WC.seq fun K80 hK80 => ?_
        refine WC.seq fun K81 hK81 => ?_
        refine WC.region ?_
        refine WL.val (dx_move rfl rfl) rfl rfl ?_
        refine WL.val (dx_nilCheck rfl rfl) rfl rfl ?_
        refine WL.val (dx_fld (o1 := 0) rfl ty_fld_55_0_0 rfl rfl) rfl rfl ?_
        refine WL.get (dx_cw rfl Try.func58 rfl rfl rfl (take_v 58 s P k74 dp W78 _ hL (.tail _ (.tail _ hPL)) hs (by omega) hp79)) rfl rfl ?_
        rintro _ W92 ⟨⟨k88, rfl, hk89, hk90, hp93⟩, g91⟩
        replace hts := hts.chgL g91 (.tail _ (.tail _ hPL))
        replace hV := hV.chg g91 hVP
        replace hOn := hOn.chgL g91 hBnP
        replace hOi := hOi.chgL g91 hBiP
        replace hB := hB.chg g91 (Nat.le_trans hbw hB.size)
        replace hL := hL.chg g91
        cases hT94 : takeS s k74 58 with
        | false =>
          rw [hT94] at hk89
          replace hk89 : k74 = k88 := Eq.symm hk89
          subst hk89
          refine WL.val (dx_not rfl rfl) rfl rfl ?_
          refine WL.nil ?_
          refine hK81 ?_
          refine WC.condT rfl ?_
          refine WC.seq fun K95 hK95 => ?_
          refine WC.region ?_
          refine WL.val (dx_assign rfl rfl) rfl rfl ?_
          refine WL.nil ?_
          refine hK95 ?_
          refine WC.ret fun a_ ha_ => ?_
          exact hQ (cx_ret1 rfl (.tmp rfl) (.inr ⟨k74, 2, rfl, by decide, (pairS_n (take_of (by rcases Nat.lt_or_ge ka s.size with h_ | h_; exact h_; (have := hc23 h_; omega)) (by have h_ : ka < s.size := (by rcases Nat.lt_or_ge ka s.size with h_ | h_; exact h_; (have := hc23 h_; omega)); have := hc22 h_; omega)) hw45 hnm).trans (by apply pairN_c (a := at_) <;> first | assumption | omega), by omega, (fiveO hV hOn.one hOi.one), hp93⟩) hB ha_)
        | true =>
          rw [hT94] at hk89
          have hthT94 := take_t hT94
          replace hk89 : k88 = k74 + 1 := hk89
          refine WL.val (dx_not rfl rfl) rfl rfl ?_
          refine WL.nil ?_
          refine hK81 ?_
          refine WC.condF rfl ?_
          refine WC.skip ?_
          refine hK80 ?_
          refine WC.seq fun K96 hK96 => ?_
          refine WC.region ?_
          refine WL.val (dx_move rfl rfl) rfl rfl ?_
          refine WL.val (dx_nilCheck rfl rfl) rfl rfl ?_
          refine WL.val (dx_fld (o1 := 0) rfl ty_fld_55_0_0 rfl rfl) rfl rfl ?_
          refine WL.get (dx_cw rfl Try.func33 rfl rfl rfl (blanks_v s P k88 dp W92 _ hL (.tail _ (.tail _ hPL)) hs (by omega) hp93)) rfl rfl ?_
          rintro _ W107 ⟨hp108, g106⟩
          replace hts := hts.chgL g106 (.tail _ (.tail _ hPL))
          replace hV := hV.chg g106 hVP
          replace hOn := hOn.chgL g106 hBnP
          replace hOi := hOi.chgL g106 hBiP
          replace hB := hB.chg g106 (Nat.le_trans hbw hB.size)
          replace hL := hL.chg g106
          obtain ⟨k103, hk104⟩ : ∃ k, k = blankS s k88 := ⟨_, rfl⟩
          rw [← hk104] at hp108
          have hk105 := blankS_le (s := s) (k := k88) (by omega)
          rw [← hk104] at hk105
          refine WL.nil ?_
          refine hK96 ?_
          refine WC.seq fun K109 hK109 => ?_
          refine WC.region ?_
          refine WL.val (dx_move rfl rfl) rfl rfl ?_
          refine WL.get (dx_cw rfl Try.func34 rfl rfl rfl (hv P k103 W107 _ hL (.tail _ (.tail _ hPL)) (by omega) hp108)) rfl rfl ?_
          rintro _ W137 ⟨(⟨k123, t125, rfl, hw127, hw128, hw129, hw130, hp138⟩ | ⟨k124, e126, rfl, hw131, hw132, hw133, hp138⟩), g136⟩
          ·
            replace hts := hts.chgL g136 (.tail _ (.tail _ hPL))
            replace hV := hV.chg g136 hVP
            replace hOn := hOn.chgL g136 hBnP
            replace hOi := hOi.chgL g136 hBiP
            replace hB := hB.chg g136 (Nat.le_trans hbw hB.size)
            replace hL := hL.chg g136
            refine WL.val (dx_move rfl rfl) rfl rfl ?_
            refine WL.val (dx_extract rfl rfl rfl) rfl rfl ?_
            refine WL.val (dx_extract rfl rfl rfl) rfl rfl ?_
            refine WL.get (dx_alloc rfl ty_zero_26 rfl) rfl rfl ?_
            rintro _ W139 ⟨rfl, k140, b141, z142⟩
            have n143 : P ≠ W137.heap.size := Nat.ne_of_lt hp138.lt
            have n144 : V ≠ W137.heap.size := Nat.ne_of_lt hV.lt
            have n145 : Bn ≠ W137.heap.size := Nat.ne_of_lt hOn.lt
            have n146 : Bi ≠ W137.heap.size := Nat.ne_of_lt hOi.lt
            have l147 := hB.size
            replace hts := hts.more b141 (Nat.le_refl _)
            replace hw128 := hw128.more b141 (Nat.le_refl _)
            replace hp138 := hp138.below b141
            replace hV := hV.below b141
            replace hOn := hOn.below b141
            replace hOi := hOi.below b141
            replace hB := hB.both (.of_below (b141.mono (Nat.le_trans hbw hB.size)))
            replace hL := LL.more hL z142
            refine WL.do (dx_store (cs' := [.int .i64 t125.kind, .int .i64 t125.num, .string t125.text, t125.nv, t125.iv]) (vs := [.int .i64 t125.kind, .int .i64 t125.num, .string t125.text, t125.nv, t125.iv]) rfl ty_size_26_5 rfl rfl rfl (oc_cons rfl (oc_cons rfl (oc_cons rfl (oc_cons (hw128.1).one (oc_cons (hw128.2.1).one oc_nil))))) k140 rfl (Nat.le_of_ble_eq_true rfl) rfl) rfl ?_
            rintro _ W148 ⟨k150, o149⟩
            replace hp138 := hp138.other o149 n143
            replace hV := hV.other o149 n144
            replace hOn := hOn.other o149 n145
            replace hOi := hOi.other o149 n146
            clear k140
            replace hts := hts.only o149 (.head _)
            replace hw128 := hw128.only o149 (.head _)
            replace hB := hB.both (.of_only o149 (.inr (.inr (Nat.le_trans hbw l147))))
            replace hL := LL.only hL o149
            refine WL.val (dx_assign rfl rfl) rfl rfl ?_
            refine WL.nil ?_
            refine hK109 ?_
            refine WC.seq fun K151 hK151 => ?_
            refine WC.seq fun K152 hK152 => ?_
            refine WC.region ?_
            refine WL.val (dx_move rfl rfl) rfl rfl ?_
            refine WL.val (dx_neq rfl rfl rfl) rfl rfl ?_
            refine WL.nil ?_
            refine hK152 ?_
            refine WC.condF rfl ?_
            refine WC.skip ?_
            refine hK151 ?_
            refine WC.seq fun K153 hK153 => ?_
            refine WC.region ?_
            refine WL.val (dx_move rfl rfl) rfl rfl ?_
            refine WL.val (dx_move rfl rfl) rfl rfl ?_
            refine WL.val (dx_nilCheck rfl rfl) rfl rfl ?_
            refine WL.val (dx_fld (o1 := 3) rfl ty_fld_26_3_3 rfl rfl) rfl rfl ?_
            refine WL.val (dx_load rfl ty_one_23 rfl (hV.cell (k := 3) rfl)) rfl rfl ?_
            refine WL.val (dx_move rfl rfl) rfl rfl ?_
            refine WL.val (dx_move rfl rfl) rfl rfl ?_
            refine WL.get (dx_lit1 (r := [.string nm54]) rfl ty_ap_23 (by decide) (by decide) rfl rfl rfl) rfl rfl ?_
            rintro u158 W154 ⟨k155, b156, z157⟩
            have n159 : P ≠ W148.heap.size := Nat.ne_of_lt hp138.lt
            have n160 : V ≠ W148.heap.size := Nat.ne_of_lt hV.lt
            have n161 : Bn ≠ W148.heap.size := Nat.ne_of_lt hOn.lt
            have n162 : Bi ≠ W148.heap.size := Nat.ne_of_lt hOi.lt
            have n163 : W137.heap.size ≠ W148.heap.size := Nat.ne_of_lt k150.lt
            have l164 := hB.size
            replace hts := hts.more b156 (Nat.le_refl _)
            replace hw128 := hw128.more b156 (Nat.le_refl _)
            replace hp138 := hp138.below b156
            replace hV := hV.below b156
            replace hOn := hOn.below b156
            replace hOi := hOi.below b156
            replace k150 := k150.below b156
            replace hB := hB.both (.of_below (b156.mono (Nat.le_trans hbw hB.size)))
            replace hL := LL.more hL z157
            refine WL.get (dx_cw rfl Try.func50 rfl rfl rfl (insOT_v _ [eS nm54] at_ Bn W148.heap.size _ _ W154 hOn k155 n161.symm (by rw [List.length_map]; omega) (by simp) (by rw [List.length_map, List.length_singleton]; omega) (oc_eS ns) (fun r hr => by rw [List.mem_singleton.1 hr]; exact (oc_cons rfl oc_nil)))) rfl rfl ?_
            rintro x165 W166 ⟨⟨B167, k168, g169⟩, g170⟩
            have g171 := GrowB.of_chg g170 g169
            have n174 : P ≠ B167 := hp138.grow_ne g171 hBnP.symm
            have n175 : V ≠ B167 := hV.grow_ne g171 hBnV.symm
            have n176 : Bi ≠ B167 := hOi.grow_ne g171 hni.symm
            have n177 : W137.heap.size ≠ B167 := k150.grow_ne g171 n145.symm
            have n178 : W148.heap.size ≠ B167 := k155.grow_ne g171 n161.symm
            have l173 : b ≤ B167 := g171.le hbn (Nat.le_trans hbw hB.size)
            replace hts := hts.grow' g171 (.tail _ (.tail _ (.head _)))
            replace hw128 := hw128.grow' g171 (.tail _ (.tail _ (.head _)))
            replace hp138 := hp138.grow g171 hBnP.symm
            replace hV := hV.grow g171 hBnV.symm
            replace hOi := hOi.grow g171 hni.symm
            replace k150 := k150.grow g171 n145.symm
            replace k155 := k155.grow g171 n161.symm
            replace hB := hB.grow g171 hbn (Nat.le_trans hbw hB.size)
            replace hL := LL.grow hL g171 k168.lt
            rw [show (ns.map eS).take at_ ++ ([eS nm54] ++ (ns.map eS).drop at_) = ((insA at_ nm54 ns).map eS) from (insA_map _ at_ _ _).symm] at k168
            refine WL.val (dx_nilCheck rfl rfl) rfl rfl ?_
            refine WL.val (dx_fld (o1 := 3) rfl ty_fld_26_3_3 rfl rfl) rfl rfl ?_
            refine WL.do (dx_store (cs' := [.int .i64 6, .int .i64 0, .string ⟨#[]⟩, x165, iv]) (vs := [x165]) rfl ty_size_23_1 rfl rfl (oc_one k168.one) (oc_cons k168.one oc_nil) hV rfl (Nat.le_of_ble_eq_true rfl) rfl) rfl ?_
            rintro _ W179 ⟨k181, o180⟩
            replace hp138 := hp138.other o180 hVP.symm
            replace hOi := hOi.other o180 hBiV
            replace k150 := k150.other o180 n144.symm
            replace k155 := k155.other o180 n160.symm
            replace k168 := k168.other o180 n175.symm
            clear hV
            replace hts := hts.only o180 (.tail _ (.tail _ (.tail _ (.tail _ (.tail _ hVL)))))
            replace hw128 := hw128.only o180 (.tail _ (.tail _ (.tail _ (.tail _ (.tail _ hVL)))))
            replace hB := hB.both (.of_only o180 (.inr (.inl rfl)))
            replace hL := LL.only hL o180
            refine WL.nil ?_
            refine hK153 ?_
            refine WC.seq fun K182 hK182 => ?_
            have hsW := hB.size
            refine WC.drawL (fun L_ W_ => H3 false W179 Bi (iv) (ts.map encT) (L_ 8) W_) 9 (rel3 false Bi) (sd3 false W179 V Bi at_ (iv) (encT t125) ((ts.map encT).take at_ ++ ([(encT t125)] ++ (ts.map encT).drop at_))) [[], [], [1], [2], [3], [], [], [6], [4, 5, 7]] (by kernel_rfl) (by kernel_rfl) (by kernel_rfl) (by kernel_rfl) (by kernel_rfl) (by kernel_rfl) (by kernel_rfl) (begin3 (fun _ => hOi)) mono3 ?_ ?_
            ·
              refine ⟨fun L_ Wd hl hn hG => ?_, ?_⟩
              ·
                replace hG : H3 false W179 Bi (iv) (ts.map encT) (L_ 8) Wd := hG
                exact DV.dr (dx_move rfl rfl) ⟨rel_o3 (by decide) (Below.refl _ _), hG, rfl⟩
              refine ⟨fun L_ Wd hl hn hG => ?_, ?_⟩
              ·
                replace hG : H3 false W179 Bi (iv) (ts.map encT) (L_ 8) Wd := hG
                exact DV.dr (dx_move rfl rfl) ⟨rel_o3 (by decide) (Below.refl _ _), hG, rfl⟩
              refine ⟨fun L_ Wd hl hn hG => ?_, ?_⟩
              ·
                replace hG : H3 false W179 Bi (iv) (ts.map encT) (L_ 8) Wd := hG
                exact DV.dr (dx_nilCheck rfl rfl) ⟨rel_o3 (by decide) (Below.refl _ _), hG, rfl⟩
              refine ⟨fun L_ Wd hl hn hG => ?_, ?_⟩
              ·
                replace hG : H3 false W179 Bi (iv) (ts.map encT) (L_ 8) Wd := hG
                exact DV.dr (dx_fld (o1 := 4) rfl ty_fld_26_4_4 rfl rfl) ⟨rel_o3 (by decide) (Below.refl _ _), hG, rfl⟩
              refine ⟨fun L_ Wd hl hn hG => ?_, ?_⟩
              ·
                replace hG : H3 false W179 Bi (iv) (ts.map encT) (L_ 8) Wd := hG
                exact DV.dr (dx_load rfl ty_one_24 rfl ((k181.chg hG.1 hBiV.symm).cell (k := 4) rfl)) ⟨rel_o3 (by decide) (Below.refl _ _), hG, rfl⟩
              refine ⟨fun L_ Wd hl hn hG => ?_, ?_⟩
              ·
                replace hG : H3 false W179 Bi (iv) (ts.map encT) (L_ 8) Wd := hG
                exact DV.dr (dx_move rfl rfl) ⟨rel_o3 (by decide) (Below.refl _ _), hG, rfl⟩
              refine ⟨fun L_ Wd hl hn hG => ?_, ?_⟩
              ·
                replace hG : H3 false W179 Bi (iv) (ts.map encT) (L_ 8) Wd := hG
                exact DV.dr (dx_loadN (cs := (encT t125)) rfl ty_agg_26_5 rfl ((k150.chg hG.1 n146.symm).range) rfl) ⟨rel_o3 (by decide) (Below.refl _ _), hG, rfl⟩
              refine ⟨fun L_ Wd hl hn hG => ?_, ?_⟩
              ·
                replace hG : H3 false W179 Bi (iv) (ts.map encT) (L_ 8) Wd := hG
                have h8_ := hn 8 (by decide)
                refine (dx_lit1 (r := (encT t125)) rfl ty_ap_24 (by decide) (by decide) rfl rfl rfl).mono ?_
                rintro u W_ ⟨k1_, k2_, k3_⟩
                exact ⟨rel_o3 (by decide) k2_, lit3 hG k2_, ⟨Wd.heap.size, (fun a_ => Nat.ne_of_gt (hG.2 a_ h8_).lt), hG.1.size, k1_⟩⟩
              refine ⟨fun L_ Wd hl hn hG => ?_, ?_⟩
              ·
                intro u7 q7
                replace hG : H3 false W179 Bi (iv) (ts.map encT) (L_ 8) Wd := hG
                obtain ⟨C7, c1_, c2_, c3_⟩ := q7
                refine (dx_cw rfl Try.func51 rfl rfl rfl (insOV_v _ [(encT t125)] at_ Bi C7 _ _ Wd (hG.2 rfl hl) c3_ (c1_ rfl) (by rw [List.length_map]; omega) (by simp) (by rw [List.length_map, List.length_singleton]; omega) (oc_items hts) (fun r hr => by rw [List.mem_singleton.1 hr]; exact hw128.oc))).mono ?_
                rintro u W_ ⟨⟨B_, k1_, g0_⟩, gc_⟩
                exact ⟨(by unfold rel3; rw [if_pos rfl]; exact gc_), (show H3 false W179 Bi (iv) (ts.map encT) true W_ from ⟨hG.1.both gc_, fun _ h => by cases h⟩), ⟨B_, (by have := hG.1.size; rcases g0_ with g0_ | g0_; exact .inl ⟨rfl, g0_⟩; exact .inr (by omega)), k1_⟩⟩
              exact trivial
            ·
              intro We hGe
              obtain ⟨hc, -⟩ := (show H3 false W179 Bi (iv) (ts.map encT) true We from hGe)
              intro u7 q7 u8 q8
              obtain ⟨B183, g186, k184⟩ := q8
              clear q7
              have g185 := GrowB.of_chg hc (by rcases g186 with h_ | h_; exact .inl h_.2; exact .inr h_)
              have n188 : P ≠ B183 := hp138.grow_ne g185 hBiP.symm
              have n189 : V ≠ B183 := k181.grow_ne g185 hBiV.symm
              have n190 : W137.heap.size ≠ B183 := k150.grow_ne g185 n146.symm
              have n191 : W148.heap.size ≠ B183 := k155.grow_ne g185 n162.symm
              have n192 : B167 ≠ B183 := k168.grow_ne g185 n176.symm
              have l187 : b ≤ B183 := g185.le hbi (Nat.le_trans hbw hB.size)
              replace hts := hts.grow' g185 (.tail _ (.tail _ (.tail _ (.tail _ (.head _)))))
              replace hw128 := hw128.grow' g185 (.tail _ (.tail _ (.tail _ (.tail _ (.head _)))))
              replace hp138 := hp138.grow g185 hBiP.symm
              replace k181 := k181.grow g185 hBiV.symm
              replace k150 := k150.grow g185 n146.symm
              replace k155 := k155.grow g185 n162.symm
              replace k168 := k168.grow g185 n176.symm
              replace hB := hB.grow g185 hbi (Nat.le_trans hbw hB.size)
              replace hL := LL.grow hL g185 k184.lt
              rw [show ((ts.map encT).take at_ ++ ([(encT t125)] ++ (ts.map encT).drop at_)) = ((insA at_ t125 ts).map encT) from (insA_map encT at_ t125 ts).symm] at k184
              refine WL.val (dx_nilCheck rfl rfl) rfl rfl ?_
              refine WL.val (dx_fld (o1 := 4) rfl ty_fld_26_4_4 rfl rfl) rfl rfl ?_
              refine WL.do (dx_store (cs' := [.int .i64 6, .int .i64 0, .string ⟨#[]⟩, x165, u8]) (vs := [u8]) rfl ty_size_24_1 rfl rfl (oc_one k184.one) (oc_cons k184.one oc_nil) k181 rfl (Nat.le_of_ble_eq_true rfl) rfl) rfl ?_
              rintro _ W193 ⟨k195, o194⟩
              replace hp138 := hp138.other o194 hVP.symm
              replace k150 := k150.other o194 n144.symm
              replace k155 := k155.other o194 n160.symm
              replace k168 := k168.other o194 n175.symm
              replace k184 := k184.other o194 n189.symm
              clear k181
              replace hts := hts.only o194 (.tail _ (.tail _ (.tail _ (.tail _ (.tail _ (.tail _ hVL))))))
              replace hw128 := hw128.only o194 (.tail _ (.tail _ (.tail _ (.tail _ (.tail _ (.tail _ hVL))))))
              replace hB := hB.both (.of_only o194 (.inr (.inl rfl)))
              replace hL := LL.only hL o194
              refine WL.nil ?_
              refine hK182 ?_
              refine WC.seq fun K196 hK196 => ?_
              refine WC.region ?_
              refine WL.val (dx_assign rfl rfl) rfl rfl ?_
              refine WL.nil ?_
              refine hK196 ?_
              refine WC.ret fun a_ ha_ => ?_
              exact hQ (cx_ret1 rfl (.tmp rfl) (.inl ⟨k123, (insA at_ nm54 ns, insA at_ t125.er (ts.map Tr.er)), rfl, (pairS_n (take_of (by rcases Nat.lt_or_ge ka s.size with h_ | h_; exact h_; (have := hc23 h_; omega)) (by have h_ : ka < s.size := (by rcases Nat.lt_or_ge ka s.size with h_ | h_; exact h_; (have := hc23 h_; omega)); have := hc22 h_; omega)) hw45 hnm).trans (by apply pairN_k (a := at_) <;> first | assumption | omega), by omega, by omega, (by show (insA at_ nm54 ns).length ≤ _; rw [insA_len (by omega)]; first | omega | (simp at hlka ⊢; omega)), ⟨x165, u8, insA at_ t125 ts, insA_map _ _ _ _, (by rw [hat]; exact rises_ins hris (by rw [← hat]; assumption)), (by show (insA at_ nm54 ns).length = _; rw [insA_len (by omega), insA_len (by first | omega | (simp at hatl ⊢; omega))]; first | omega | rfl), k195, hI0, .inr ⟨B167, B183, n192, by omega, by omega, k168, k184, (fun c hc_ => by rcases mem_insA.1 hc_ with rfl | h_; exact hw128.less (fun x hx => by simp only [List.mem_cons] at hx ⊢; rcases hx with h_ | h_ | h_ <;> simp [h_]); exact (hts c h_).less (fun x hx => by simp only [List.mem_cons] at hx ⊢; rcases hx with h_ | h_ | h_ <;> simp [h_]))⟩⟩, hp138⟩) hB ha_)
          ·
            replace hts := hts.chgL g136 (.tail _ (.tail _ hPL))
            replace hV := hV.chg g136 hVP
            replace hOn := hOn.chgL g136 hBnP
            replace hOi := hOi.chgL g136 hBiP
            replace hB := hB.chg g136 (Nat.le_trans hbw hB.size)
            replace hL := hL.chg g136
            refine WL.val (dx_move rfl rfl) rfl rfl ?_
            refine WL.val (dx_extract rfl rfl rfl) rfl rfl ?_
            refine WL.val (dx_extract rfl rfl rfl) rfl rfl ?_
            refine WL.get (dx_alloc rfl ty_zero_26 rfl) rfl rfl ?_
            rintro _ W197 ⟨rfl, k198, b199, z200⟩
            have n201 : P ≠ W137.heap.size := Nat.ne_of_lt hp138.lt
            have n202 : V ≠ W137.heap.size := Nat.ne_of_lt hV.lt
            have n203 : Bn ≠ W137.heap.size := Nat.ne_of_lt hOn.lt
            have n204 : Bi ≠ W137.heap.size := Nat.ne_of_lt hOi.lt
            have l205 := hB.size
            replace hts := hts.more b199 (Nat.le_refl _)
            replace hp138 := hp138.below b199
            replace hV := hV.below b199
            replace hOn := hOn.below b199
            replace hOi := hOi.below b199
            replace hB := hB.both (.of_below (b199.mono (Nat.le_trans hbw hB.size)))
            replace hL := LL.more hL z200
            refine WL.do (dx_store (cs' := [.int .i64 0, .int .i64 0, .string ⟨#[]⟩, .slice none 0 0, .slice none 0 0]) (vs := [.int .i64 0, .int .i64 0, .string ⟨#[]⟩, .slice none 0 0, .slice none 0 0]) rfl ty_size_26_5 rfl rfl rfl (oc_cons rfl (oc_cons rfl (oc_cons rfl (oc_cons rfl (oc_cons rfl oc_nil))))) k198 rfl (Nat.le_of_ble_eq_true rfl) rfl) rfl ?_
            rintro _ W206 ⟨k208, o207⟩
            replace hp138 := hp138.other o207 n201
            replace hV := hV.other o207 n202
            replace hOn := hOn.other o207 n203
            replace hOi := hOi.other o207 n204
            clear k198
            replace hts := hts.only o207 (.head _)
            replace hB := hB.both (.of_only o207 (.inr (.inr (Nat.le_trans hbw l205))))
            replace hL := LL.only hL o207
            refine WL.val (dx_assign rfl rfl) rfl rfl ?_
            refine WL.nil ?_
            refine hK109 ?_
            refine WC.seq fun K209 hK209 => ?_
            refine WC.seq fun K210 hK210 => ?_
            refine WC.region ?_
            refine WL.val (dx_move rfl rfl) rfl rfl ?_
            refine WL.val (dv_NT (dx_neq rfl rfl rfl) hw131) rfl rfl ?_
            refine WL.nil ?_
            refine hK210 ?_
            refine WC.condT rfl ?_
            refine WC.seq fun K211 hK211 => ?_
            refine WC.region ?_
            refine WL.val (dx_move rfl rfl) rfl rfl ?_
            refine WL.val (dx_assign rfl rfl) rfl rfl ?_
            refine WL.nil ?_
            refine hK211 ?_
            refine WC.ret fun a_ ha_ => ?_
            exact hQ (cx_ret1 rfl (.tmp rfl) (.inr ⟨k124, e126, rfl, hw131, (pairS_n (take_of (by rcases Nat.lt_or_ge ka s.size with h_ | h_; exact h_; (have := hc23 h_; omega)) (by have h_ : ka < s.size := (by rcases Nat.lt_or_ge ka s.size with h_ | h_; exact h_; (have := hc23 h_; omega)); have := hc22 h_; omega)) hw45 hnm).trans (by apply pairN_e (a := at_) <;> first | assumption | omega), by omega, (fiveO hV hOn.one hOi.one), hp138⟩) hB ha_)
    ·
      replace hts := hts.chgL g55 (.tail _ (.tail _ hPL))
      replace hV := hV.chg g55 hVP
      replace hOn := hOn.chgL g55 hBnP
      replace hOi := hOi.chgL g55 hBiP
      replace hB := hB.chg g55 (Nat.le_trans hbw hB.size)
      replace hL := hL.chg g55
      refine WL.val (dx_move rfl rfl) rfl rfl ?_
      refine WL.val (dx_extract rfl rfl rfl) rfl rfl ?_
      refine WL.val (dx_extract rfl rfl rfl) rfl rfl ?_
      refine WL.val (dx_assign rfl rfl) rfl rfl ?_
      refine WL.val (dx_assign rfl rfl) rfl rfl ?_
      refine WL.nil ?_
      refine hK28 ?_
      refine WC.seq fun K212 hK212 => ?_
      refine WC.seq fun K213 hK213 => ?_
      refine WC.region ?_
      refine WL.val (dx_move rfl rfl) rfl rfl ?_
      refine WL.val (dx_neq rfl rfl rfl) rfl rfl ?_
      refine WL.nil ?_
      refine hK213 ?_
      refine WC.condT rfl ?_
      refine WC.seq fun K214 hK214 => ?_
      refine WC.region ?_
      refine WL.val (dx_move rfl rfl) rfl rfl ?_
      refine WL.val (dx_assign rfl rfl) rfl rfl ?_
      refine WL.nil ?_
      refine hK214 ?_
      refine WC.ret fun a_ ha_ => ?_
      exact hQ (cx_ret1 rfl (.tmp rfl) (.inr ⟨k43, 2, rfl, by decide, pairS_q (take_of (by rcases Nat.lt_or_ge ka s.size with h_ | h_; exact h_; (have := hc23 h_; omega)) (by have h_ : ka < s.size := (by rcases Nat.lt_or_ge ka s.size with h_ | h_; exact h_; (have := hc23 h_; omega)); have := hc22 h_; omega)) hw50, by omega, (fiveO hV hOn.one hOi.one), hp57⟩) hB ha_)

end Go.Proofs.Ytpinidlfcifeeaa
namespace Go.Proofs.Ytpinidlfcifeeaa
open Go.RowKit
set_option linter.unusedVariables false
set_option linter.unusedSimpArgs false
set_option maxRecDepth 8000

theorem ob1_v (n : Nat) (vs : Nat → Except Int (Js × Nat)) (s : ByteArray) (dp : Nat) (hc : PairAt n vs s dp) : ObjAt n vs s dp := by
  intro b Bp V P L ka st w hL hPL hVL hBL hBP hVP hBV hLb hbw hk hp hI hlka
  obtain ⟨hBp, hI⟩ := hI
  refine cx_enter (N := 5) (f := [(0, .pointer (some ⟨Bp, 0, none⟩)), (1, .pointer (some ⟨V, 0, none⟩))]) Try.func90 rfl rfl rfl rfl fun Q hQ hE_ => ?_
  have hB := ChgV.refl b P V w
  refine WC.seq fun K1 hK1 => ?_
  refine WC.region ?_
  refine WL.val (dx_assign rfl rfl) rfl rfl ?_
  refine WL.nil ?_
  refine hK1 ?_
  refine WC.seq fun K2 hK2 => ?_
  refine WC.region ?_
  refine WL.val (dx_load rfl ty_one_51 rfl (hBp.cell (k := 0) rfl)) rfl rfl ?_
  refine WL.get (dx_cx rfl Try.func91 rfl rfl rfl (hc b V P L ka st w hL hPL hVL hVP hLb (Nat.le_trans hbw hB.size) hk hp hI hlka)) rfl rfl ?_
  rintro _ W17 ⟨(⟨k3, st4, rfl, h7, h8, h9, h10, h11, hp18⟩ | ⟨k5, e6, rfl, h7, h8, h9, h10, hp18⟩), g16⟩
  ·
    replace hB := hB.both g16
    replace hL := hL.chgV g16
    replace hBp := hBp.chgV g16 (hLb Bp hBL) hBP hBV
    refine WL.val (dx_assign rfl rfl) rfl rfl ?_
    refine WL.nil ?_
    refine hK2 ?_
    refine WC.ret fun a_ ha_ => ?_
    exact hQ (cx_ret1 rfl (.tmp rfl) (.inl ⟨k3, st4, rfl, h7, h8, h9, h10, ⟨hBp, h11⟩, hp18⟩) hB ha_)
  ·
    replace hB := hB.both g16
    replace hL := hL.chgV g16
    replace hBp := hBp.chgV g16 (hLb Bp hBL) hBP hBV
    refine WL.val (dx_assign rfl rfl) rfl rfl ?_
    refine WL.nil ?_
    refine hK2 ?_
    refine WC.ret fun a_ ha_ => ?_
    exact hQ (cx_ret1 rfl (.tmp rfl) (.inr ⟨k5, e6, rfl, h7, h8, h9, h10, hp18⟩) hB ha_)

set_option maxHeartbeats 1000000 in
theorem object_v (n : Nat) (vs : Nat → Except Int (Js × Nat)) (s : ByteArray) (P ka dp : Nat) (w : World) (L : List Nat) (hL : LL L w) (hPL : P ∈ L) (hs : s.size ≤ 1000000) (hk : ka ≤ s.size) (hp : Blk w P (psC s ka dp))  (hq : takeS s ka 123 = true) (hc : ObjAt n vs s dp) : CW Try.prog 65 [.pointer (some ⟨P, 0, none⟩)] w P fun v W => (∃ k' t, v = .tuple #[.agg #[.int .i64 t.kind, .int .i64 t.num, .string t.text, t.nv, t.iv], .int .i64 0] ∧ objS s vs ka = .ok (t.er, k') ∧ RdT (n + 1) L W t ∧ ka < k' ∧ k' ≤ s.size ∧ Blk W P (psC s k' dp)) ∨ (∃ k' e cs, v = .tuple #[.agg (List.toArray cs), .int .i64 e] ∧ e ≠ 0 ∧ cs.length = 5 ∧ (∀ u ∈ cs, u.oneCell' = true) ∧ objS s vs ka = .error e ∧ k' ≤ s.size ∧ Blk W P (psC s k' dp)) := by
  refine cw_enter (N := 12) (f := [(0, .pointer (some ⟨P, 0, none⟩))]) Try.func65 rfl rfl rfl rfl fun Q hQ hE => ?_
  have hB := Chg.refl P w
  have hL0 := hL
  refine WC.seq fun K1 hK1 => ?_
  refine WC.region ?_
  refine WL.get (dx_box (cs := [.pointer (some ⟨P, 0, none⟩)]) rfl rfl rfl) rfl rfl ?_
  rintro _ W2 ⟨rfl, k3, b4, z5⟩
  have n6 : P ≠ w.heap.size := Nat.ne_of_lt hp.lt
  have l7 := hB.size
  replace hp := hp.below b4
  replace hB := Chg.thenB hB b4
  replace hL := LL.more hL z5
  refine WL.get (dx_alloc rfl ty_zero_26 rfl) rfl rfl ?_
  rintro _ W8 ⟨rfl, k9, b10, z11⟩
  have n12 : P ≠ W2.heap.size := Nat.ne_of_lt hp.lt
  have n13 : w.heap.size ≠ W2.heap.size := Nat.ne_of_lt k3.lt
  have l14 := hB.size
  replace hp := hp.below b10
  replace k3 := k3.below b10
  replace hB := Chg.thenB hB b10
  replace hL := LL.more hL z11
  refine WL.val (dx_assign rfl rfl) rfl rfl ?_
  refine WL.nil ?_
  refine hK1 ?_
  refine WC.seq fun K15 hK15 => ?_
  refine WC.region ?_
  refine WL.val (dx_build rfl rfl (built_of_O (cs := [.int .i64 6, .int .i64 0, .string ⟨#[]⟩, .slice none 0 0, .slice none 0 0]) (by kernel_rfl) (oc_cons rfl oc_nil))) rfl rfl ?_
  refine WL.get (dx_alloc rfl ty_zero_26 rfl) rfl rfl ?_
  rintro _ W16 ⟨rfl, k17, b18, z19⟩
  have n20 : P ≠ W8.heap.size := Nat.ne_of_lt hp.lt
  have n21 : w.heap.size ≠ W8.heap.size := Nat.ne_of_lt k3.lt
  have n22 : W2.heap.size ≠ W8.heap.size := Nat.ne_of_lt k9.lt
  have l23 := hB.size
  replace hp := hp.below b18
  replace k3 := k3.below b18
  replace k9 := k9.below b18
  replace hB := Chg.thenB hB b18
  replace hL := LL.more hL z19
  refine WL.do (dx_store (cs' := [.int .i64 6, .int .i64 0, .string ⟨#[]⟩, .slice none 0 0, .slice none 0 0]) (vs := [.int .i64 6, .int .i64 0, .string ⟨#[]⟩, .slice none 0 0, .slice none 0 0]) rfl ty_size_26_5 rfl rfl rfl (oc_cons rfl (oc_cons rfl (oc_cons rfl (oc_cons rfl (oc_cons rfl oc_nil))))) k17 rfl (Nat.le_of_ble_eq_true rfl) rfl) rfl ?_
  rintro _ W24 ⟨k26, o25⟩
  replace hp := hp.other o25 n20
  replace k3 := k3.other o25 n21
  replace k9 := k9.other o25 n22
  clear k17
  replace hB := Chg.only hB o25 (.inr l23)
  replace hL := LL.only hL o25
  refine WL.nil ?_
  refine hK15 ?_
  refine WC.seq fun K27 hK27 => ?_
  refine WC.region ?_
  refine WL.val (dx_load rfl ty_one_51 rfl (k3.cell (k := 0) rfl)) rfl rfl ?_
  refine WL.val (dx_func rfl rfl rfl) rfl rfl ?_
  refine WL.get (dx_cx rfl Try.func88 rfl rfl rfl (members_v (ObjI n W24.heap.size (w.heap.size) (W8.heap.size) P (W8.heap.size :: W2.heap.size :: w.heap.size :: L)) (FiveE (W8.heap.size)) (pairS s vs) 123 125 _ W24.heap.size (W8.heap.size) ([], []) (fun st => st.1.length) s P ka dp W24 _ hL (.tail _ (.tail _ (.tail _ hPL))) hs (by omega) hp (Nat.le_refl _) objI_five ⟨objI_chg n6.symm n20.symm (.tail _ (.tail _ (.tail _ hPL))), ⟨k3, _, _, [], rfl, List.Pairwise.nil, rfl, k26, hL, .inl ⟨rfl, rfl, rfl, rfl⟩⟩⟩ (Nat.zero_le _) hq (fun W_ L_ k_ st_ h1_ h2_ h3_ h4_ h5_ h6_ h7_ => ⟨90, #[], #[.pointer (some ⟨w.heap.size, 0, none⟩), .pointer (some ⟨W8.heap.size, 0, none⟩)], _, rfl, Try.func90, rfl, rfl, hc W24.heap.size (w.heap.size) (W8.heap.size) P (W8.heap.size :: W2.heap.size :: w.heap.size :: L) k_ st_ W_ (fun x hx => Nat.lt_of_lt_of_le (hL x hx) h3_) (.tail _ (.tail _ (.tail _ hPL))) (.head _) (.tail _ (.tail _ (.head _))) n6.symm n20.symm n21 hL h3_ h4_ h5_ h6_ h7_⟩))) rfl rfl ?_
  rintro _ W53 ⟨(⟨k28, st29, rfl, hm35, hm36, hm37, ⟨hBp50, nv32, iv33, ts34, hm38, hm45, hm46, hV49, hm39⟩, hp54⟩ | ⟨k30, e31, rfl, hm40, hm41, hm42, ⟨cs51, hm43, hm44, hV49⟩, hp54⟩), g52⟩
  ·
    replace hB := ChgV.toChg hB g52 hB.size l23
    replace hL := hL.chgV g52
    replace k9 := k9.chgV g52 k9.lt n12.symm n22
    refine WL.val (dx_assign rfl rfl) rfl rfl ?_
    refine WL.nil ?_
    refine hK27 ?_
    refine WC.seq fun K55 hK55 => ?_
    refine WC.region ?_
    refine WL.val (dx_loadN rfl ty_agg_26_5 rfl hV49.range rfl) rfl rfl ?_
    refine WL.val (dx_move rfl rfl) rfl rfl ?_
    refine WL.do (dx_store (cs' := [.int .i64 6, .int .i64 0, .string ⟨#[]⟩, nv32, iv33]) (vs := [.int .i64 6, .int .i64 0, .string ⟨#[]⟩, nv32, iv33]) rfl ty_size_26_5 rfl rfl rfl (oc_cons rfl (oc_cons rfl (oc_cons rfl (oc_cons hm39.one.1 (oc_cons hm39.one.2 oc_nil))))) k9 rfl (Nat.le_of_ble_eq_true rfl) rfl) rfl ?_
    rintro _ W56 ⟨k58, o57⟩
    replace hp54 := hp54.other o57 n12
    replace hBp50 := hBp50.other o57 n13
    replace hV49 := hV49.other o57 n22.symm
    clear k9
    replace hm39 := hm39.only o57 (.tail _ (.head _))
    replace hB := Chg.only hB o57 (.inr l14)
    replace hL := LL.only hL o57
    refine WL.val (dx_assign rfl rfl) rfl rfl ?_
    refine WL.nil ?_
    refine hK55 ?_
    refine WC.ret fun a_ ha_ => ?_
    exact hQ (cw_ret2 rfl (.agg rfl ty_agg_26_5 k58.range rfl) (.tmp rfl) (.inl ⟨k28, .mk 6 0 ⟨#[]⟩ nv32 st29.1 iv33 ts34, rfl, (by unfold objS; rw [hm35, Tr.er_mk, hm38]), hm39.tree (fun x hx => (.tail _ (.tail _ (.tail _ hx)))) 6 0 ⟨#[]⟩, by omega, by omega, hp54⟩) hB ha_)
  ·
    replace hB := ChgV.toChg hB g52 hB.size l23
    replace hL := hL.chgV g52
    replace k9 := k9.chgV g52 k9.lt n12.symm n22
    refine WL.val (dx_assign rfl rfl) rfl rfl ?_
    refine WL.nil ?_
    refine hK27 ?_
    refine WC.seq fun K59 hK59 => ?_
    refine WC.region ?_
    refine WL.val (dx_loadN (cs := cs51) rfl ty_agg_26_5 rfl hV49.range hm43) rfl rfl ?_
    refine WL.val (dx_move rfl rfl) rfl rfl ?_
    refine WL.do (dx_storeW (vs := cs51) rfl ty_size_26_5 rfl rfl rfl hm44 k9 hm43 rfl) rfl ?_
    rintro _ W60 ⟨k62, o61⟩
    replace hp54 := hp54.other o61 n12
    replace hV49 := hV49.other o61 n22.symm
    clear k9
    replace hB := Chg.only hB o61 (.inr l14)
    replace hL := LL.only hL o61
    refine WL.val (dx_assign rfl rfl) rfl rfl ?_
    refine WL.nil ?_
    refine hK59 ?_
    refine WC.ret fun a_ ha_ => ?_
    exact hQ (cw_ret2 rfl (.agg rfl ty_agg_26_5 k62.range hm43) (.tmp rfl) (.inr ⟨k30, e31, cs51, rfl, hm40, hm43, hm44, (by unfold objS; rw [hm41]), by omega, hp54⟩) hB ha_)

/-- What stands at a place, so many steps ahead of the deepest. -/
def valD (s : ByteArray) : Nat → Nat → Except Int (Js × Nat)
  | 0 => fun k => valB s 12 (.error 4) (.error 4) k
  | m + 1 => fun k => valB s (12 - (m + 1)) (listS s (valD s m) k) (objS s (valD s m) k) k
theorem val_at (s : ByteArray) (hs : s.size ≤ 1000000) : ∀ m dp, m ≤ 12 → dp + m = 12 → ValAt (m + 1) (valD s m) s dp
  | 0, dp, _, hd => fun P ka w L hL hPL hk hp => by
    obtain rfl : dp = 12 := by omega
    exact value_v 0 (.error 4) (.error 4) s P ka 12 w L hL hPL hs hk hp (Nat.le_refl _) (fun h => absurd rfl h) (fun h => absurd rfl h)
  | m + 1, dp, hm, hd => fun P ka w L hL hPL hk hp => by
    have ih := val_at s hs m (dp + 1) (by omega) (by omega)
    have e : dp = 12 - (m + 1) := by omega
    show CW _ _ _ _ _ fun v W => (∃ k' t, v = .tuple #[.agg #[.int .i64 t.kind, .int .i64 t.num, .string t.text, t.nv, t.iv], .int .i64 0] ∧ valB s (12 - (m + 1)) (listS s (valD s m) ka) (objS s (valD s m) ka) ka = .ok (t.er, k') ∧ RdT (m + 1 + 1) L W t ∧ ka < k' ∧ k' ≤ s.size ∧ Blk W P (psC s k' dp)) ∨ (∃ k' e, v = .tuple #[.agg #[.int .i64 0, .int .i64 0, .string ⟨#[]⟩, .slice none 0 0, .slice none 0 0], .int .i64 e] ∧ e ≠ 0 ∧ valB s (12 - (m + 1)) (listS s (valD s m) ka) (objS s (valD s m) ka) ka = .error e ∧ k' ≤ s.size ∧ Blk W P (psC s k' dp))
    rw [← e]
    exact value_v (m + 1) (listS s (valD s m) ka) (objS s (valD s m) ka) s P ka dp w L hL hPL hs hk hp (by omega)
      (fun _ hq W L' h1 h2 d hd' h4 => by subst hd'; exact list_v (m + 1) (valD s m) s P ka (dp + 1) W L' h1 h2 hs hk h4 hq (one_v m (valD s m) s (dp + 1) hs ih))
      (fun _ hq W L' h1 h2 d hd' h4 => by subst hd'; exact object_v (m + 1) (valD s m) s P ka (dp + 1) W L' h1 h2 hs hk h4 hq (ob1_v (m + 1) (valD s m) s (dp + 1) (pair_v m (valD s m) s (dp + 1) hs ih)))
def parJ (s : ByteArray) : Except Int Js := parS s (valD s 12)
theorem jParse_v (s : ByteArray) (w : World) (L : List Nat) (hL : LL L w) : CV Try.prog 12 [.string s] w fun v W => (∃ t, v = .tuple #[.agg #[.int .i64 t.kind, .int .i64 t.num, .string t.text, t.nv, t.iv], .int .i64 0] ∧ parJ s = .ok t.er ∧ RdT 13 L W t) ∨ (∃ e, v = .tuple #[.agg #[.int .i64 0, .int .i64 0, .string ⟨#[]⟩, .slice none 0 0, .slice none 0 0], .int .i64 e] ∧ e ≠ 0 ∧ parJ s = .error e) :=
  parse_v 12 (valD s 12) s w L hL (fun h dq hd => by subst hd; exact val_at s (by omega) 12 0 (by omega) rfl)
end Go.Proofs.Ytpinidlfcifeeaa

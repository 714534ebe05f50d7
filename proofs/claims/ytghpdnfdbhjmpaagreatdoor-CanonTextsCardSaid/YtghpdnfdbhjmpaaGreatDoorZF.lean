/- The reference's objects with an item, and without items. What the reference's value comes to. The reference's value, walked. The reference's Parse. Wh -/
import Derived.Test.YtghpdnfdbhjmpaaGreatDoorZE
namespace Go.Proofs.YtghpdnfdbhjmpaaGreatDoor
open Go.RowKit
set_option linter.unusedVariables false
set_option linter.unusedSimpArgs false
set_option maxRecDepth 8000
set_option maxHeartbeats 2000000

theorem take_add {α : Type} {l : List α} {k : Nat} {x : α} (h : l[k]? = some x) : l.take k ++ [x] = l.take (k + 1) := by rw [List.take_add_one, h]; rfl
def putN (ns : List ByteArray) (nm : ByteArray) : List ByteArray := if ns[lbT nm ns]? = some nm then ns else insA (lbT nm ns) nm ns
def putT {α : Type} (ns : List ByteArray) (nm : ByteArray) (ts : List α) (x : α) : List α := if ns[lbT nm ns]? = some nm then ts.set (lbT nm ns) x else insA (lbT nm ns) x ts
theorem putJ_eq (j : Js) (nm : ByteArray) (x : Js) : putJ j nm x = .mk 6 0 ⟨#[]⟩ (putN j.names nm) (putT j.names nm j.items x) := by
 unfold putJ putN putT
 split <;> rfl
theorem putT_map {α β : Type} (f : α → β) (ns : List ByteArray) (nm : ByteArray) (ts : List α) (x : α) : (putT ns nm ts x).map f = putT ns nm (ts.map f) (f x) := by
 unfold putT
 split
 · rw [List.map_set]
 · rw [insA_map]
def putC (ns : List ByteArray) (nm : ByteArray) : Nat := if ns[lbT nm ns]? = some nm then 0 else 1
section
variable {α : Type} {ns : List ByteArray} {nm b : ByteArray} {ts : List α} {x t : α} {i : Nat}
theorem putC_le : putC ns nm ≤ 1 := by unfold putC; split <;> omega
theorem putN_len : (putN ns nm).length = ns.length + putC ns nm := by
 unfold putN putC
 split
 · rfl
 · exact insA_len (lbT_le _ _)
theorem putT_len (hl : ns.length = ts.length) : (putT ns nm ts x).length = ns.length + putC ns nm := by
 have := lbT_le nm ns
 unfold putT putC
 split
 · rw [List.length_set]; omega
 · rw [insA_len (by omega)]; omega
theorem putN_a : (putN ns nm)[lbT nm ns]? = some nm := by
 unfold putN
 split
 · rename_i h; exact h
 · exact insA_at (lbT_le _ _)
theorem putT_a (hl : ns.length = ts.length) : (putT ns nm ts x)[lbT nm ns]? = some x := by
  have := lbT_le nm ns
  unfold putT
  split
  · rename_i h
    have := (List.getElem?_eq_some_iff.1 h).1
    exact List.getElem?_set_self (by omega)
  · exact insA_at (by omega)
theorem putN_lt (h : i < lbT nm ns) : (putN ns nm)[i]? = ns[i]? := by
 unfold putN
 split
 · rfl
 · exact insA_lt (lbT_le _ _) h
theorem putT_lt (hl : ns.length = ts.length) (h : i < lbT nm ns) : (putT ns nm ts x)[i]? = ts[i]? := by
 have := lbT_le nm ns
 unfold putT
 split
 · exact List.getElem?_set_ne (by omega)
 · exact insA_lt (by omega) h
theorem putN_ge (h : lbT nm ns ≤ i) (hb : ns[i]? = some b) (hne : ¬ b = nm) : (putN ns nm)[i + putC ns nm]? = some b := by
  unfold putN putC
  split
  · exact hb
  · show (insA _ _ _)[i + 1]? = _
    rw [insA_ge (lbT_le _ _) h]; exact hb
theorem putT_ge (hl : ns.length = ts.length) (h : lbT nm ns ≤ i) (hb : ns[i]? = some b) (hne : ¬ b = nm) (ht : ts[i]? = some t) : (putT ns nm ts x)[i + putC ns nm]? = some t := by
  have := lbT_le nm ns
  unfold putT putC
  split
  · rename_i hf
    rw [Nat.add_zero, List.getElem?_set_ne (fun e => by rw [e, hb] at hf; exact hne (Option.some.inj hf))]; exact ht
  · rw [insA_ge (by omega) h]; exact ht
theorem putC_found (hr : Rises ns) (hb : ns[i]? = some nm) : putC ns nm = 0 ∧ i = lbT nm ns := by
 have hm := (mem_lb hr).1 (List.mem_of_getElem? hb)
 exact ⟨by unfold putC; rw [if_pos hm], rises_uniq hr hb hm⟩
theorem lb_is (hb : ns[i]? = some b) (h1 : i ≤ lbT nm ns) (h2 : sless b nm = false) : i = lbT nm ns := by
 rcases Nat.lt_or_ge i (lbT nm ns) with h | h
 · rw [lb_ahead h hb] at h2; cases h2
 · omega
theorem lb_not (hb : ns[i]? = some b) (hr : Rises ns) (h2 : sless b nm = true) : i < lbT nm ns := by
  rcases Nat.lt_or_ge i (lbT nm ns) with h | h
  · exact h
  · have hlt := (List.getElem?_eq_some_iff.1 hb).1
    have ha := List.getElem?_eq_getElem (l := ns) (i := lbT nm ns) (by omega)
    have := rises_ahead hr h hb h2 ha
    rw [lb_at ha] at this; cases this
end
def PutK (a i k c : Nat) : Prop := (a < i → k = i + c) ∧ (i = a → k = i + 1) ∧ (i < a → k = i)
def PutQ (a i k c : Nat) : Prop := a ≤ i → k = i + c
theorem PutK.q {a i k c : Nat} (h : PutK a i k c) (hc : i = a → c = 1) : PutQ a i k c := fun q => by
  rcases Nat.lt_or_ge a i with h1 | h1
  · exact h.1 h1
  · have e : i = a := by omega
    rw [hc e]; exact h.2.1 e
theorem putC_not {ns : List ByteArray} {nm b : ByteArray} (hb : ns[lbT nm ns]? = some b) (hne : ¬ b = nm) : putC ns nm = 1 := by
 unfold putC
 rw [if_neg (fun h => by rw [hb] at h; exact hne (Option.some.inj h))]
set_option maxHeartbeats 2000000 in
theorem refPut_v (n : Nat) (p q : Tr) (name : ByteArray) (w : World) (L : List Nat) (hL : LL L w) (htp : RdT (n + 1) L w p) (htq : RdT (n + 1) L w q)  (hris : Rises p.names) (hlen : p.names.length = p.items.length) (hsm : p.names.length ≤ 1000000) : CV Tryz.prog 44 [.agg #[.int .i64 p.kind, .int .i64 p.num, .string p.text, p.nv, p.iv], .string name, .agg #[.int .i64 q.kind, .int .i64 q.num, .string q.text, q.nv, q.iv]] w fun v W => ∃ t, v = .agg #[.int .i64 t.kind, .int .i64 t.num, .string t.text, t.nv, t.iv] ∧ t.er = putJ p.er name q.er ∧ RdT (n + 2) L W t := by
 refine cv_enter (N := 83) (f := [(0, .agg #[.int .i64 p.kind, .int .i64 p.num, .string p.text, p.nv, p.iv]), (1, .string name), (2, .agg #[.int .i64 q.kind, .int .i64 q.num, .string q.text, q.nv, q.iv])]) Tryz.func44 rfl rfl rfl rfl fun Q hQ hE => ?_
 have hB := Below.refl w.heap.size w
 have hL0 := hL
 refine Sq fun K1 hK1 => ?_
 obtain ⟨hnp, hip, hcp⟩ := htp
 replace hcp : RdTs n (L) w p.items := hcp
 obtain ⟨hnq, hiq, hcq⟩ := htq
 replace hcq : RdTs n (L) w q.items := hcq
 refine Rg ?_
 refine Ge (dx_box rfl rfl rfl) rfl rfl ?_
 rintro _ W2 ⟨rfl, k3, b4, z5⟩
 have l6 := hB.size
 replace hnp := hnp.more b4 (Nat.le_refl _)
 replace hip := hip.more b4 (Nat.le_refl _)
 replace hcp := hcp.more b4 (Nat.le_refl _)
 replace hnq := hnq.more b4 (Nat.le_refl _)
 replace hiq := hiq.more b4 (Nat.le_refl _)
 replace hcq := hcq.more b4 (Nat.le_refl _)
 replace hB := below_then hB b4
 replace hL := LL.more hL z5
 refine Ge (dx_box rfl rfl rfl) rfl rfl ?_
 rintro _ W7 ⟨rfl, k8, b9, z10⟩
 have l12 := hB.size
 replace hnp := hnp.more b9 (Nat.le_refl _)
 replace hip := hip.more b9 (Nat.le_refl _)
 replace hcp := hcp.more b9 (Nat.le_refl _)
 replace hnq := hnq.more b9 (Nat.le_refl _)
 replace hiq := hiq.more b9 (Nat.le_refl _)
 replace hcq := hcq.more b9 (Nat.le_refl _)
 replace k3 := k3.below b9
 replace hB := below_then hB b9
 replace hL := LL.more hL z10
 refine Ge (dx_alloc rfl ty_zero_27 rfl) rfl rfl ?_
 rintro _ W13 ⟨rfl, k14, b15, z16⟩
 have l19 := hB.size
 replace hnp := hnp.more b15 (Nat.le_refl _)
 replace hip := hip.more b15 (Nat.le_refl _)
 replace hcp := hcp.more b15 (Nat.le_refl _)
 replace hnq := hnq.more b15 (Nat.le_refl _)
 replace hiq := hiq.more b15 (Nat.le_refl _)
 replace hcq := hcq.more b15 (Nat.le_refl _)
 replace k3 := k3.below b15
 replace k8 := k8.below b15
 replace hB := below_then hB b15
 replace hL := LL.more hL z16
 refine Ni (hK1 (Sq fun K20 hK20 => (Rg (Va (dx_build rfl rfl (built_of_O (cs := [.int .i64 6, .int .i64 0, .string ⟨#[]⟩, .slice none 0 0, .slice none 0 0]) (by kernel_rfl) (oC rfl oc_nil))) rfl rfl ?_))))
 refine Ge (dx_alloc rfl ty_zero_27 rfl) rfl rfl ?_
 rintro _ W21 ⟨rfl, k22, b23, z24⟩
 have n25 : w.heap.size ≠ W13.heap.size := Nat.ne_of_lt k3.lt
 have n26 : W2.heap.size ≠ W13.heap.size := Nat.ne_of_lt k8.lt
 have n27 : W7.heap.size ≠ W13.heap.size := Nat.ne_of_lt k14.lt
 have l28 := hB.size
 replace hnp := hnp.more b23 (Nat.le_refl _)
 replace hip := hip.more b23 (Nat.le_refl _)
 replace hcp := hcp.more b23 (Nat.le_refl _)
 replace hnq := hnq.more b23 (Nat.le_refl _)
 replace hiq := hiq.more b23 (Nat.le_refl _)
 replace hcq := hcq.more b23 (Nat.le_refl _)
 replace k3 := k3.below b23
 replace k8 := k8.below b23
 replace k14 := k14.below b23
 replace hB := below_then hB b23
 replace hL := LL.more hL z24
 refine WL.do (dx_store (cs' := [.int .i64 6, .int .i64 0, .string ⟨#[]⟩, .slice none 0 0, .slice none 0 0]) (vs := [.int .i64 6, .int .i64 0, .string ⟨#[]⟩, .slice none 0 0, .slice none 0 0]) rfl ty_size_27_5 rfl rfl rfl o5 k22 rfl (nB rfl) rfl) rfl ?_
 rintro _ W29 ⟨k31, o30⟩
 replace k3 := k3.other o30 n25
 replace k8 := k8.other o30 n26
 replace k14 := k14.other o30 n27
 clear k22
 replace hnp := hnp.only o30 (.head _)
 replace hip := hip.only o30 (.head _)
 replace hcp := hcp.only o30 (.head _)
 replace hnq := hnq.only o30 (.head _)
 replace hiq := hiq.only o30 (.head _)
 replace hcq := hcq.only o30 (.head _)
 replace hB := o30.below hB l28
 replace hL := LL.only hL o30
 refine Ni (hK20 (Sq fun K32 hK32 => (Rg (Pu rfl (Ni (hK32 (Sq fun K33 hK33 => ?_)))))))
 refine Sq fun K34 hK34 => (Rg (Pu rfl (Ni (hK34 (WC.block ?_)))))
 have hla := lbT_le name p.names
 have hnl := putN_len (ns := p.names) (nm := name)
 have htl := putT_len (nm := name) (x := q) hlen
 have hcl := putC_le (ns := p.names) (nm := name)
 obtain ⟨a_, ha_⟩ : ∃ a, a = lbT name p.names := ⟨_, rfl⟩
 obtain ⟨c_, hc_⟩ : ∃ a, a = putC p.names name := ⟨_, rfl⟩
 rw [← ha_] at hla
 rw [← hc_] at hnl htl hcl
 obtain ⟨b0, hb0⟩ : ∃ b, b = W29.heap.size := ⟨_, rfl⟩
 have hb0L : ∀ x ∈ (W13.heap.size :: W7.heap.size :: W2.heap.size :: w.heap.size :: L), x < b0 := by rw [hb0]; exact hL
 have hb0w : w.heap.size ≤ b0 := by rw [hb0]; exact hB.size
 have hnp6 := hnp
 have hip6 := hip
 have hnq6 := hnq
 have hiq6 := hiq
 have hcp6 := hcp
 have hcq6 := hcq
 have hag : AgL W29 (W13.heap.size :: W7.heap.size :: W2.heap.size :: w.heap.size :: L) (W13.heap.size :: W7.heap.size :: W2.heap.size :: w.heap.size :: L) W29 := ⟨fun _ h _ => h, ⟨Nat.le_refl _, fun _ _ _ => rfl⟩⟩
 have hm : MembI (n + 1) b0 (W13.heap.size :: W7.heap.size :: W2.heap.size :: w.heap.size :: L) (.slice none 0 0) ((putN p.names name).take 0) (.slice none 0 0) ((putT p.names name p.items q).take 0) W29 := ⟨hb0L, .inl ⟨rfl, rfl, by first | rfl | simp, by first | rfl | simp⟩⟩
 refine WC.loop4 (fun (i : Nat) (k : Nat) (nv : Value) (iv : Value) => [(1, .string name), (3, .pointer (some ⟨w.heap.size, 0, none⟩)), (5, .pointer (some ⟨W2.heap.size, 0, none⟩)), (6, .pointer (some ⟨W7.heap.size, 0, none⟩)), (7, .pointer (some ⟨W13.heap.size, 0, none⟩)), (9, .int .i64 (i : Int)), (8, .bool (decide (a_ < i)))]) (fun (i : Nat) (k : Nat) (nv : Value) (iv : Value) W => i ≤ p.names.length ∧ k ≤ i + 1 ∧ (a_ < i → k = i + c_) ∧ (i ≤ a_ → k = i) ∧ Below w.heap.size w W ∧ LL (W13.heap.size :: W7.heap.size :: W2.heap.size :: w.heap.size :: L) W ∧ RdF 1 (W13.heap.size :: W7.heap.size :: W2.heap.size :: w.heap.size :: L) W p.nv (p.names.map eS) ∧ RdF 5 (W13.heap.size :: W7.heap.size :: W2.heap.size :: w.heap.size :: L) W p.iv (p.items.map encT) ∧ RdTs n (W13.heap.size :: W7.heap.size :: W2.heap.size :: w.heap.size :: L) W p.items ∧ RdF 1 (W13.heap.size :: W7.heap.size :: W2.heap.size :: w.heap.size :: L) W q.nv (q.names.map eS) ∧ RdF 5 (W13.heap.size :: W7.heap.size :: W2.heap.size :: w.heap.size :: L) W q.iv (q.items.map encT) ∧ RdTs n (W13.heap.size :: W7.heap.size :: W2.heap.size :: w.heap.size :: L) W q.items ∧ AgL W29 (W13.heap.size :: W7.heap.size :: W2.heap.size :: w.heap.size :: L) (W13.heap.size :: W7.heap.size :: W2.heap.size :: w.heap.size :: L) W ∧ MembI (n + 1) b0 (W13.heap.size :: W7.heap.size :: W2.heap.size :: w.heap.size :: L) nv ((putN p.names name).take k) iv ((putT p.names name p.items q).take k) W ∧ Blk W w.heap.size [.int .i64 p.kind, .int .i64 p.num, .string p.text, p.nv, p.iv] ∧ Blk W W2.heap.size [.int .i64 q.kind, .int .i64 q.num, .string q.text, q.nv, q.iv] ∧ Blk W W7.heap.size [.int .i64 0, .int .i64 0, .string ⟨#[]⟩, .slice none 0 0, .slice none 0 0] ∧ Blk W W13.heap.size [.int .i64 6, .int .i64 0, .string ⟨#[]⟩, nv, iv]) (fun (i : Nat) (k : Nat) (nv : Value) (iv : Value) => p.names.length - i) 0 0 (.slice none 0 0) (.slice none 0 0) (by repeat first | exact trivial | refine aR ?_ | refine aI (by omega) ?_ | refine And.intro (congrArg (fun z : Bool => some (Value.bool z)) (by first | exact (decide_eq_true (by omega)).symm | exact (decide_eq_false (by omega)).symm)) ?_) ⟨Nat.zero_le _, Nat.zero_le _, (fun h_ => by omega), (fun _ => rfl), hB, hL, hnp, hip, hcp, hnq, hiq, hcq, hag, hm, k3, k8, k14, k31⟩ ?_
 clear hnp hip hcp hnq hiq hcq hag hm k3 k8 k14 k31 hB hL
 rintro K35 i k nv iv W36 ⟨hi, hkl, hk1, hk2, hB, hL, hnp, hip, hcp, hnq, hiq, hcq, hag, hm, k3, k8, k14, k31⟩ hK35
 refine Sq fun K37 hK37 => (Sq fun K38 hK38 => (Rg (Pu rfl (Va (dx_fld (o1 := 3) rfl ty_fld_27_3_3 rfl rfl) rfl rfl (Va (dx_load rfl ty_one_24 rfl (k3.cell (k := 3) rfl)) rfl rfl (Va (dx_lenFM rfl ty_slice_24 rfl hnp) rfl rfl (Va (dx_lss rfl rfl rfl) rfl rfl ?_)))))))
 refine Ni (hK38 ?_)
 refine WC.cond rfl (fun c39 => ?_) (fun c39 => ?_)
 ·
  replace c39 := dT c39
  refine WC.skip (hK37 (Sq fun K40 hK40 => (WC.block (Sq fun K41 hK41 => ?_))))
  have hJ6 : ∀ (k2 : Nat) (nv2 : Value) (iv2 : Value) (W42 : World) (f_ : Fl), k2 ≤ i + 1 ∧ PutK a_ i k2 c_ ∧ Below w.heap.size w W42 ∧ LL (W13.heap.size :: W7.heap.size :: W2.heap.size :: w.heap.size :: L) W42 ∧ RdF 1 (W13.heap.size :: W7.heap.size :: W2.heap.size :: w.heap.size :: L) W42 p.nv (p.names.map eS) ∧ RdF 5 (W13.heap.size :: W7.heap.size :: W2.heap.size :: w.heap.size :: L) W42 p.iv (p.items.map encT) ∧ RdTs n (W13.heap.size :: W7.heap.size :: W2.heap.size :: w.heap.size :: L) W42 p.items ∧ RdF 1 (W13.heap.size :: W7.heap.size :: W2.heap.size :: w.heap.size :: L) W42 q.nv (q.names.map eS) ∧ RdF 5 (W13.heap.size :: W7.heap.size :: W2.heap.size :: w.heap.size :: L) W42 q.iv (q.items.map encT) ∧ RdTs n (W13.heap.size :: W7.heap.size :: W2.heap.size :: w.heap.size :: L) W42 q.items ∧ AgL W29 (W13.heap.size :: W7.heap.size :: W2.heap.size :: w.heap.size :: L) (W13.heap.size :: W7.heap.size :: W2.heap.size :: w.heap.size :: L) W42 ∧ MembI (n + 1) b0 (W13.heap.size :: W7.heap.size :: W2.heap.size :: w.heap.size :: L) nv2 ((putN p.names name).take k2) iv2 ((putT p.names name p.items q).take k2) W42 ∧ Blk W42 w.heap.size [.int .i64 p.kind, .int .i64 p.num, .string p.text, p.nv, p.iv] ∧ Blk W42 W2.heap.size [.int .i64 q.kind, .int .i64 q.num, .string q.text, q.nv, q.iv] ∧ Blk W42 W7.heap.size [.int .i64 0, .int .i64 0, .string ⟨#[]⟩, .slice none 0 0, .slice none 0 0] ∧ Blk W42 W13.heap.size [.int .i64 6, .int .i64 0, .string ⟨#[]⟩, nv2, iv2] → Sub [(1, .string name), (3, .pointer (some ⟨w.heap.size, 0, none⟩)), (5, .pointer (some ⟨W2.heap.size, 0, none⟩)), (6, .pointer (some ⟨W7.heap.size, 0, none⟩)), (7, .pointer (some ⟨W13.heap.size, 0, none⟩)), (9, .int .i64 (i : Int)), (8, .bool (decide (a_ < i + 1)))] f_ → ∀ a, Fr 83 a f_ → K41 a W42 := by
   clear hnp hip hcp hnq hiq hcq hag hm k3 k8 k14 k31 hB hL
   rintro k2 nv2 iv2 W42 f_ ⟨hkl2, hj, hB, hL, hnp, hip, hcp, hnq, hiq, hcq, hag, hm, k3, k8, k14, k31⟩ hs_
   refine hK41 (WC.sub hs_ ?_)
   clear hk1 hk2
   refine Sq fun K43 hK43 => (Rg (Va (dx_fld (o1 := 3) rfl ty_fld_27_3_3 rfl rfl) rfl rfl (Va (dx_load rfl ty_one_24 rfl (k3.cell (k := 3) rfl)) rfl rfl (Pu rfl ?_))))
   obtain ⟨r44, e45⟩ : ∃ x, p.names[i]? = some x := ⟨_, List.getElem?_eq_getElem (by omega)⟩
   refine Ge (dx_idxF i rfl ty_slice_24 rfl rfl hnp (by omega) (at_mapX e45)) rfl rfl ?_
   rintro u46 _ ⟨rfl, p47⟩
   refine Va (dx_loadP rfl ty_one_9 rfl p47) rfl rfl (Pu rfl (Va (dx_neqT rfl rfl rfl) rfl rfl (Ni (hK43 ?_))))
   refine WC.cond rfl (fun c48 => ?_) (fun c48 => ?_)
   ·
    replace c48 := bnot_t c48
    replace c48 := dF c48
    refine Sq fun K49 hK49 => ?_
    have hne : ¬ r44 = name := by first | assumption | simp_all
    have hk9 : PutQ a_ i k2 c_ := hj.q fun e_ => by rw [hc_]; exact putC_not (by rw [← ha_, ← e_]; exact e45) hne
    have n2 : (putN p.names name)[k2]? = some r44 := by rcases Nat.lt_or_ge i a_ with h_ | h_; (rw [hj.2.2 h_, putN_lt (by omega)]; exact e45); (have h2_ := putN_ge (nm := name) (i := i) (by omega) e45 hne; rw [← hc_, ← hk9 h_] at h2_; exact h2_)
    obtain ⟨-, hm⟩ := hm
    have hlN : ((putN p.names name).take k2).length ≤ p.names.length + 1 ∧ ((putT p.names name p.items q).take k2).length ≤ p.names.length + 1 := ⟨by rw [List.length_take]; omega, by rw [List.length_take]; omega⟩
    rcases hm with ⟨rfl, rfl, hns0, hts0⟩ | ⟨Bn, Bi, hni, hbn, hbi, hOn, hOi, hts⟩
    ·
     refine dM 8 [(some 48, .is (.pointer (some ⟨W13.heap.size, 3, none⟩))), (some 49, .is (.slice none 0 0)), (some 50, .is (.pointer (some ⟨w.heap.size, 3, none⟩))), (some 51, .is (p.nv)), (some 52, .is (.int .i64 (i : Int))), (some 53, .by fun u W => PtR (W13.heap.size :: W7.heap.size :: W2.heap.size :: w.heap.size :: L) W u [.string r44]), (some 54, .is (.string r44)), (some 55, .by fun u W => RdF 1 (W13.heap.size :: W7.heap.size :: W2.heap.size :: w.heap.size :: L) W u [[.string r44]])] [[], [0], [], [2], [], [3, 4], [5], [6]] ⟨fun _ _ _ hb h => h.below hb, fun _ _ _ hb h => h.below hb, trivial⟩ ?_ ?_
     ·
      refine Dc (fun Wd hd => ?_) ?_
      ·
       exact Dd (dx_fld (o1 := 3) rfl ty_fld_27_3_3 rfl rfl) rfl
      refine Dc (fun Wd hd => ?_) ?_
      ·
       have k31 := k31.below hd
       exact Dd (dx_load rfl ty_one_24 rfl (k31.cell (k := 3) rfl)) rfl
      refine Dc (fun Wd hd => ?_) ?_
      ·
       exact Dd (dx_fld (o1 := 3) rfl ty_fld_27_3_3 rfl rfl) rfl
      refine Dc (fun Wd hd => ?_) ?_
      ·
       have k3 := k3.below hd
       exact Dd (dx_load rfl ty_one_24 rfl (k3.cell (k := 3) rfl)) rfl
      refine Dc (fun Wd hd => ?_) ?_
      ·
       exact Dd (dx_move rfl rfl) rfl
      refine Dc (fun Wd hd => ?_) ?_
      ·
       have hnp := hnp.below hd
       exact (dx_idxF i rfl ty_slice_24 rfl rfl hnp (by omega) (at_mapX e45)).mono (fun v W' h => ⟨by rw [← h.1]; exact Below.refl _ _, by rw [← h.1]; exact h.2⟩)
      refine Dc (fun Wd hd => ?_) ?_
      ·
       intro u11_5 p11_5
       exact Dd (dx_loadP rfl ty_one_9 rfl p11_5) rfl
      refine Dc (fun Wd hd => ?_) ?_
      ·
       exact (dx_lit1 (r := [.string r44]) rfl ty_ap_24 (by decide) (by decide) rfl rfl rfl).mono (fun v W' h => ⟨h.2.1, h.1.notin (LL.below hL hd) (Nat.le_refl _)⟩)
      exact trivial
     ·
      intro W50 b51
      intro u11_5 p11_5
      intro u11_7 p11_7
      replace hnp := hnp.below b51
      replace hip := hip.below b51
      replace hcp := hcp.below b51
      replace hnq := hnq.below b51
      replace hiq := hiq.below b51
      replace hcq := hcq.below b51
      replace hag := hag.below b51
      replace k3 := k3.below b51
      replace k8 := k8.below b51
      replace k14 := k14.below b51
      replace k31 := k31.below b51
      replace hB := below_then hB b51
      replace hL := LL.below hL b51
      refine Ge (dx_apF (rs := []) (news := [eS r44]) rfl ty_ap_24 rfl rfl (RdF.nil (L := []) (by decide)) (RdF.less (L' := []) p11_7 (fun x hx => by cases hx)) (by simp) (by simp [maxLen]) (by simp)) rfl rfl ?_
      rintro u52 W53 ⟨k54, b55, z56⟩
      have q59 := hag.2.1
      have l60 : b0 ≤ W50.heap.size := by omega
      have n64 : W13.heap.size ≠ W50.heap.size := Nat.ne_of_lt k31.lt
      have l65 := hB.size
      replace hnp := hnp.more b55 (Nat.le_refl _)
      replace hip := hip.more b55 (Nat.le_refl _)
      replace hcp := hcp.more b55 (Nat.le_refl _)
      replace hnq := hnq.more b55 (Nat.le_refl _)
      replace hiq := hiq.more b55 (Nat.le_refl _)
      replace hcq := hcq.more b55 (Nat.le_refl _)
      replace hag := hag.more b55 (Nat.le_refl _)
      replace k3 := k3.below b55
      replace k8 := k8.below b55
      replace k14 := k14.below b55
      replace k31 := k31.below b55
      replace hB := below_then hB b55
      replace hL := LL.more hL z56
      refine Va (dx_fld (o1 := 3) rfl ty_fld_27_3_3 rfl rfl) rfl rfl ?_
      refine WL.do (dx_store (cs' := [.int .i64 6, .int .i64 0, .string ⟨#[]⟩, u52, .slice none 0 0]) (vs := [u52]) rfl ty_size_24_1 rfl rfl (oc_one k54.one) (oC k54.one oc_nil) k31 rfl (nB rfl) rfl) rfl ?_
      rintro _ W66 ⟨k68, o67⟩
      replace k3 := k3.other o67 n25
      replace k8 := k8.other o67 n26
      replace k14 := k14.other o67 n27
      replace k54 := k54.other o67 n64.symm
      clear k31
      replace hnp := hnp.only o67 (.tail _ (.head _))
      replace hip := hip.only o67 (.tail _ (.head _))
      replace hcp := hcp.only o67 (.tail _ (.head _))
      replace hnq := hnq.only o67 (.tail _ (.head _))
      replace hiq := hiq.only o67 (.tail _ (.head _))
      replace hcq := hcq.only o67 (.tail _ (.head _))
      replace hag := hag.only o67 (.tail _ (.head _))
      replace hB := o67.below hB l28
      replace hL := LL.only hL o67
      refine Ni (hK49 ?_)
      obtain ⟨t69, ht70⟩ : ∃ x, p.items[i]? = some x := ⟨_, List.getElem?_eq_getElem (by omega)⟩
      have hot69 := (hcp t69 (List.mem_of_getElem? ht70))
      obtain ⟨hnt69, hit69, hct69⟩ : RdF 1 (W50.heap.size :: W13.heap.size :: W7.heap.size :: W2.heap.size :: w.heap.size :: L) W66 t69.nv (t69.names.map eS) ∧ RdF 5 (W50.heap.size :: W13.heap.size :: W7.heap.size :: W2.heap.size :: w.heap.size :: L) W66 t69.iv (t69.items.map encT) ∧ ∀ c ∈ t69.items, RdT n (W50.heap.size :: W13.heap.size :: W7.heap.size :: W2.heap.size :: w.heap.size :: L) W66 c := by cases n with | zero => exact hot69.elim | succ n => exact ⟨hot69.1, hot69.2.1, fun c hc => (hot69.2.2 c hc).up⟩
      have t2 : (putT p.names name p.items q)[k2]? = some t69 := by rcases Nat.lt_or_ge i a_ with h_ | h_; (rw [hj.2.2 h_, putT_lt hlen (by omega)]; exact ht70); (have h2_ := putT_ge (x := q) hlen (i := i) (by omega) e45 hne ht70; rw [← hc_, ← hk9 h_] at h2_; exact h2_)
      refine dM 8 [(some 58, .is (.pointer (some ⟨W13.heap.size, 4, none⟩))), (some 59, .is (.slice none 0 0)), (some 60, .is (.pointer (some ⟨w.heap.size, 4, none⟩))), (some 61, .is (p.iv)), (some 62, .is (.int .i64 (i : Int))), (some 63, .by fun u W => PtR (W50.heap.size :: W13.heap.size :: W7.heap.size :: W2.heap.size :: w.heap.size :: L) W u (encT t69)), (some 64, .is (.agg #[.int .i64 t69.kind, .int .i64 t69.num, .string t69.text, t69.nv, t69.iv])), (some 65, .by fun u W => RdF 5 (W50.heap.size :: W13.heap.size :: W7.heap.size :: W2.heap.size :: w.heap.size :: L) W u [[.int .i64 t69.kind, .int .i64 t69.num, .string t69.text, t69.nv, t69.iv]])] [[], [0], [], [2], [], [3, 4], [5], [6]] ⟨fun _ _ _ hb h => h.below hb, fun _ _ _ hb h => h.below hb, trivial⟩ ?_ ?_
      ·
       refine Dc (fun Wd hd => ?_) ?_
       ·
        exact Dd (dx_fld (o1 := 4) rfl ty_fld_27_4_4 rfl rfl) rfl
       refine Dc (fun Wd hd => ?_) ?_
       ·
        have k68 := k68.below hd
        exact Dd (dx_load rfl ty_one_25 rfl (k68.cell (k := 4) rfl)) rfl
       refine Dc (fun Wd hd => ?_) ?_
       ·
        exact Dd (dx_fld (o1 := 4) rfl ty_fld_27_4_4 rfl rfl) rfl
       refine Dc (fun Wd hd => ?_) ?_
       ·
        have k3 := k3.below hd
        exact Dd (dx_load rfl ty_one_25 rfl (k3.cell (k := 4) rfl)) rfl
       refine Dc (fun Wd hd => ?_) ?_
       ·
        exact Dd (dx_move rfl rfl) rfl
       refine Dc (fun Wd hd => ?_) ?_
       ·
        have hip := hip.below hd
        exact (dx_idxF i rfl ty_slice_25 rfl rfl hip (by omega) (at_mapX ht70)).mono (fun v W' h => ⟨by rw [← h.1]; exact Below.refl _ _, by rw [← h.1]; exact h.2⟩)
       refine Dc (fun Wd hd => ?_) ?_
       ·
        intro u12_5 p12_5
        exact Dd (dx_loadPN rfl ty_agg_27_5 rfl p12_5 rfl) rfl
       refine Dc (fun Wd hd => ?_) ?_
       ·
        exact (dx_lit1 (r := [.int .i64 t69.kind, .int .i64 t69.num, .string t69.text, t69.nv, t69.iv]) rfl ty_ap_25 (by decide) (by decide) rfl rfl rfl).mono (fun v W' h => ⟨h.2.1, h.1.notin (LL.below hL hd) (Nat.le_refl _)⟩)
       exact trivial
      ·
       intro W71 b72
       intro u12_5 p12_5
       intro u12_7 p12_7
       replace hnp := hnp.below b72
       replace hip := hip.below b72
       replace hcp := hcp.below b72
       replace hnq := hnq.below b72
       replace hiq := hiq.below b72
       replace hcq := hcq.below b72
       replace hag := hag.below b72
       replace k3 := k3.below b72
       replace k8 := k8.below b72
       replace k14 := k14.below b72
       replace k68 := k68.below b72
       replace k54 := k54.below b72
       replace hB := below_then hB b72
       replace hL := LL.below hL b72
       refine Ge (dx_apF (rs := []) (news := [encT t69]) rfl ty_ap_25 rfl rfl (RdF.nil (L := []) (by decide)) (RdF.less (L' := []) p12_7 (fun x hx => by cases hx)) (by simp) (by simp [maxLen]) (by simp)) rfl rfl ?_
       rintro u73 W74 ⟨k75, b76, z77⟩
       have q80 := hag.2.1
       have l81 : b0 ≤ W71.heap.size := by omega
       have n85 : W13.heap.size ≠ W71.heap.size := Nat.ne_of_lt k68.lt
       have n86 : W50.heap.size ≠ W71.heap.size := Nat.ne_of_lt k54.lt
       have l87 := hB.size
       replace hnp := hnp.more b76 (Nat.le_refl _)
       replace hip := hip.more b76 (Nat.le_refl _)
       replace hcp := hcp.more b76 (Nat.le_refl _)
       replace hnq := hnq.more b76 (Nat.le_refl _)
       replace hiq := hiq.more b76 (Nat.le_refl _)
       replace hcq := hcq.more b76 (Nat.le_refl _)
       replace hag := hag.more b76 (Nat.le_refl _)
       replace k3 := k3.below b76
       replace k8 := k8.below b76
       replace k14 := k14.below b76
       replace k68 := k68.below b76
       replace k54 := k54.below b76
       replace hB := below_then hB b76
       replace hL := LL.more hL z77
       refine Va (dx_fld (o1 := 4) rfl ty_fld_27_4_4 rfl rfl) rfl rfl ?_
       refine WL.do (dx_store (cs' := [.int .i64 6, .int .i64 0, .string ⟨#[]⟩, u52, u73]) (vs := [u73]) rfl ty_size_25_1 rfl rfl (oc_one k75.one) (oC k75.one oc_nil) k68 rfl (nB rfl) rfl) rfl ?_
       rintro _ W88 ⟨k90, o89⟩
       replace k3 := k3.other o89 n25
       replace k8 := k8.other o89 n26
       replace k14 := k14.other o89 n27
       replace k54 := k54.other o89 n64.symm
       replace k75 := k75.other o89 n85.symm
       clear k68
       replace hnp := hnp.only o89 (.tail _ (.tail _ (.head _)))
       replace hip := hip.only o89 (.tail _ (.tail _ (.head _)))
       replace hcp := hcp.only o89 (.tail _ (.tail _ (.head _)))
       replace hnq := hnq.only o89 (.tail _ (.tail _ (.head _)))
       replace hiq := hiq.only o89 (.tail _ (.tail _ (.head _)))
       replace hcq := hcq.only o89 (.tail _ (.tail _ (.head _)))
       replace hag := hag.only o89 (.tail _ (.tail _ (.head _)))
       replace hB := o89.below hB l28
       replace hL := LL.only hL o89
       refine Ni (hK40 (Rg (Pu rfl (Va (dx_add (r := (i : Int) + 1) rfl rfl rfl (wrap64_id (by omega))) rfl rfl (Pu rfl (Ni ?_))))))
       have eputN : [r44] = (putN p.names name).take (k2 + 1) := by rw [show [r44] = (putN p.names name).take k2 ++ [r44] from by rw [hns0]; rfl]; rw [take_add n2]
       have eputT : [t69] = (putT p.names name p.items q).take (k2 + 1) := by rw [show [t69] = (putT p.names name p.items q).take k2 ++ [t69] from by rw [hts0]; rfl]; rw [take_add t2]
       have hts2 : RdTs (n + 1) (W50.heap.size :: W71.heap.size :: W13.heap.size :: W7.heap.size :: W2.heap.size :: w.heap.size :: L) W88 [t69] := fun c hc_ => by
        simp only [List.mem_append, List.mem_singleton, or_assoc] at hc_
        have h_ := hc_
        (rw [h_]; exact (hcp t69 (List.mem_of_getElem? ht70)).up.less (fun x hx => by simp only [List.mem_cons] at hx ⊢; rcases hx with h_ | h_ | h_ <;> simp [h_]))
       have hm2 : MembI (n + 1) b0 (W13.heap.size :: W7.heap.size :: W2.heap.size :: w.heap.size :: L) u52 ((putN p.names name).take (k2 + 1)) u73 ((putT p.names name p.items q).take (k2 + 1)) W88 := ⟨hb0L, .inr ⟨W50.heap.size, W71.heap.size, n86, by omega, by omega, (by rw [← eputN]; exact k54), (by rw [← eputT]; exact k75), (by rw [← eputT]; exact hts2)⟩⟩
       have hL_ := hL.less (fun x hx => (.tail _ (.tail _ hx)))
       replace hag : AgL W29 (W13.heap.size :: W7.heap.size :: W2.heap.size :: w.heap.size :: L) (W13.heap.size :: W7.heap.size :: W2.heap.size :: w.heap.size :: L) W88 := ⟨fun _ h _ => h, hag.2⟩
       replace hnp := hnp6.agree hag.2
       replace hip := hip6.agree hag.2
       replace hnq := hnq6.agree hag.2
       replace hiq := hiq6.agree hag.2
       replace hcp : RdTs n (W13.heap.size :: W7.heap.size :: W2.heap.size :: w.heap.size :: L) W88 p.items := fun c hc_ => (hcp6 c hc_).agree hag.2
       replace hcq : RdTs n (W13.heap.size :: W7.heap.size :: W2.heap.size :: w.heap.size :: L) W88 q.items := fun c hc_ => (hcq6 c hc_).agree hag.2
       replace hL := hL_
       exact hK35 (i + 1) (k2 + 1) u52 u73 ⟨(by omega), (by omega), (fun h_ => by have k9_ := hk9 (by omega); omega), (fun h_ => by have k9_ := hj.2.2 (by omega); omega), hB, hL, hnp, hip, hcp, hnq, hiq, hcq, hag, hm2, k3, k8, k14, k90⟩ (by omega) (by repeat first | exact trivial | refine aR ?_ | refine aI (by omega) ?_ | refine And.intro (congrArg (fun z : Bool => some (Value.bool z)) (by first | exact (decide_eq_true (by omega)).symm | exact (decide_eq_false (by omega)).symm)) ?_)
    ·
     have n91 : Bn ≠ w.heap.size := by have := hb0L (w.heap.size) (.tail _ (.tail _ (.tail _ (.head _)))); omega
     have n92 : Bi ≠ w.heap.size := by have := hb0L (w.heap.size) (.tail _ (.tail _ (.tail _ (.head _)))); omega
     have n93 : Bn ≠ W2.heap.size := by have := hb0L (W2.heap.size) (.tail _ (.tail _ (.head _))); omega
     have n94 : Bi ≠ W2.heap.size := by have := hb0L (W2.heap.size) (.tail _ (.tail _ (.head _))); omega
     have n95 : Bn ≠ W7.heap.size := by have := hb0L (W7.heap.size) (.tail _ (.head _)); omega
     have n96 : Bi ≠ W7.heap.size := by have := hb0L (W7.heap.size) (.tail _ (.head _)); omega
     have n97 : Bn ≠ W13.heap.size := by have := hb0L (W13.heap.size) (.head _); omega
     have n98 : Bi ≠ W13.heap.size := by have := hb0L (W13.heap.size) (.head _); omega
     have lbn : w.heap.size ≤ Bn := by omega
     have lbi : w.heap.size ≤ Bi := by omega
     replace hag := (hag.add (B := Bi) (by omega)).add (B := Bn) (by omega)
     replace hL := LL.cons (LL.cons hL hOi.lt) hOn.lt
     replace hnp := hag.rd hnp6
     replace hip := hag.rd hip6
     replace hnq := hag.rd hnq6
     replace hiq := hag.rd hiq6
     replace hcp : RdTs n (Bn :: Bi :: W13.heap.size :: W7.heap.size :: W2.heap.size :: w.heap.size :: L) W42 p.items := fun c hc_ => hag.rt (hcp6 c hc_)
     replace hcq : RdTs n (Bn :: Bi :: W13.heap.size :: W7.heap.size :: W2.heap.size :: w.heap.size :: L) W42 q.items := fun c hc_ => hag.rt (hcq6 c hc_)
     refine dM 8 [(some 48, .is (.pointer (some ⟨W13.heap.size, 3, none⟩))), (some 49, .is (nv2)), (some 50, .is (.pointer (some ⟨w.heap.size, 3, none⟩))), (some 51, .is (p.nv)), (some 52, .is (.int .i64 (i : Int))), (some 53, .by fun u W => PtR (Bn :: Bi :: W13.heap.size :: W7.heap.size :: W2.heap.size :: w.heap.size :: L) W u [.string r44]), (some 54, .is (.string r44)), (some 55, .by fun u W => RdF 1 (Bn :: Bi :: W13.heap.size :: W7.heap.size :: W2.heap.size :: w.heap.size :: L) W u [[.string r44]])] [[], [0], [], [2], [], [3, 4], [5], [6]] ⟨fun _ _ _ hb h => h.below hb, fun _ _ _ hb h => h.below hb, trivial⟩ ?_ ?_
     ·
      refine Dc (fun Wd hd => ?_) ?_
      ·
       exact Dd (dx_fld (o1 := 3) rfl ty_fld_27_3_3 rfl rfl) rfl
      refine Dc (fun Wd hd => ?_) ?_
      ·
       have k31 := k31.below hd
       exact Dd (dx_load rfl ty_one_24 rfl (k31.cell (k := 3) rfl)) rfl
      refine Dc (fun Wd hd => ?_) ?_
      ·
       exact Dd (dx_fld (o1 := 3) rfl ty_fld_27_3_3 rfl rfl) rfl
      refine Dc (fun Wd hd => ?_) ?_
      ·
       have k3 := k3.below hd
       exact Dd (dx_load rfl ty_one_24 rfl (k3.cell (k := 3) rfl)) rfl
      refine Dc (fun Wd hd => ?_) ?_
      ·
       exact Dd (dx_move rfl rfl) rfl
      refine Dc (fun Wd hd => ?_) ?_
      ·
       have hnp := hnp.below hd
       exact (dx_idxF i rfl ty_slice_24 rfl rfl hnp (by omega) (at_mapX e45)).mono (fun v W' h => ⟨by rw [← h.1]; exact Below.refl _ _, by rw [← h.1]; exact h.2⟩)
      refine Dc (fun Wd hd => ?_) ?_
      ·
       intro u11_5 p11_5
       exact Dd (dx_loadP rfl ty_one_9 rfl p11_5) rfl
      refine Dc (fun Wd hd => ?_) ?_
      ·
       exact (dx_lit1 (r := [.string r44]) rfl ty_ap_24 (by decide) (by decide) rfl rfl rfl).mono (fun v W' h => ⟨h.2.1, h.1.notin (LL.below hL hd) (Nat.le_refl _)⟩)
      exact trivial
     ·
      intro W99 b100
      intro u11_5 p11_5
      intro u11_7 p11_7
      replace hnp := hnp.below b100
      replace hip := hip.below b100
      replace hcp := hcp.below b100
      replace hnq := hnq.below b100
      replace hiq := hiq.below b100
      replace hcq := hcq.below b100
      replace hag := hag.below b100
      replace hts := hts.below b100
      replace k3 := k3.below b100
      replace k8 := k8.below b100
      replace k14 := k14.below b100
      replace k31 := k31.below b100
      replace hOn := hOn.below b100
      replace hOi := hOi.below b100
      replace hB := below_then hB b100
      replace hL := LL.below hL b100
      refine Ge (dx_apO' (rs := (((putN p.names name).take k2).map eS)) (news := [eS r44]) rfl ty_ap_24 rfl rfl hOn (RdF.less (L' := []) p11_7 (fun x hx => by cases hx)) (fun r hr => by rw [List.mem_singleton.1 hr]; exact (oC rfl oc_nil)) (by simp only [List.length_map, List.length_append, List.length_cons, List.length_nil]; unfold maxLen; omega) (by simp only [List.length_map, List.length_append, List.length_cons, List.length_nil]; omega)) rfl rfl ?_
      rintro u101 W102 ⟨B107, k103, g106⟩
      rw [show (((putN p.names name).take k2).map eS) ++ [eS r44] = ((((putN p.names name).take k2) ++ [r44]).map eS) from by simp only [List.map_append, List.map_cons, List.map_nil]] at k103
      have q109 := hag.2.1
      have l110 : b0 ≤ B107 := g106.le hbn (by omega)
      have n114 : W13.heap.size ≠ B107 := k31.grow_ne g106 n97.symm
      have n115 : Bi ≠ B107 := hOi.grow_ne g106 hni.symm
      have l108 := g106.le lbn hB.size
      replace hnp := hnp.grow' g106 (.head _)
      replace hip := hip.grow' g106 (.head _)
      replace hcp := hcp.grow' g106 (.head _)
      replace hnq := hnq.grow' g106 (.head _)
      replace hiq := hiq.grow' g106 (.head _)
      replace hcq := hcq.grow' g106 (.head _)
      replace hag := hag.grow' g106 (.head _)
      replace hts := hts.grow' g106 (.head _)
      replace k3 := k3.grow g106 n91.symm
      replace k8 := k8.grow g106 n93.symm
      replace k14 := k14.grow g106 n95.symm
      replace k31 := k31.grow g106 n97.symm
      replace hOi := hOi.grow g106 hni.symm
      replace hB := g106.below hB lbn hB.size
      replace hL := LL.grow hL g106 k103.lt
      refine Va (dx_fld (o1 := 3) rfl ty_fld_27_3_3 rfl rfl) rfl rfl ?_
      refine WL.do (dx_store (cs' := [.int .i64 6, .int .i64 0, .string ⟨#[]⟩, u101, iv2]) (vs := [u101]) rfl ty_size_24_1 rfl rfl (oc_one k103.one) (oC k103.one oc_nil) k31 rfl (nB rfl) rfl) rfl ?_
      rintro _ W116 ⟨k118, o117⟩
      replace k3 := k3.other o117 n25
      replace k8 := k8.other o117 n26
      replace k14 := k14.other o117 n27
      replace hOi := hOi.other o117 n98
      replace k103 := k103.other o117 n114.symm
      clear k31
      replace hnp := hnp.only o117 (.tail _ (.tail _ (.tail _ (.head _))))
      replace hip := hip.only o117 (.tail _ (.tail _ (.tail _ (.head _))))
      replace hcp := hcp.only o117 (.tail _ (.tail _ (.tail _ (.head _))))
      replace hnq := hnq.only o117 (.tail _ (.tail _ (.tail _ (.head _))))
      replace hiq := hiq.only o117 (.tail _ (.tail _ (.tail _ (.head _))))
      replace hcq := hcq.only o117 (.tail _ (.tail _ (.tail _ (.head _))))
      replace hag := hag.only o117 (.tail _ (.tail _ (.tail _ (.head _))))
      replace hts := hts.only o117 (.tail _ (.tail _ (.tail _ (.head _))))
      replace hB := o117.below hB l28
      replace hL := LL.only hL o117
      refine Ni (hK49 ?_)
      obtain ⟨t119, ht120⟩ : ∃ x, p.items[i]? = some x := ⟨_, List.getElem?_eq_getElem (by omega)⟩
      have hot119 := (hcp t119 (List.mem_of_getElem? ht120))
      obtain ⟨hnt119, hit119, hct119⟩ : RdF 1 (B107 :: Bn :: Bi :: W13.heap.size :: W7.heap.size :: W2.heap.size :: w.heap.size :: L) W116 t119.nv (t119.names.map eS) ∧ RdF 5 (B107 :: Bn :: Bi :: W13.heap.size :: W7.heap.size :: W2.heap.size :: w.heap.size :: L) W116 t119.iv (t119.items.map encT) ∧ ∀ c ∈ t119.items, RdT n (B107 :: Bn :: Bi :: W13.heap.size :: W7.heap.size :: W2.heap.size :: w.heap.size :: L) W116 c := by cases n with | zero => exact hot119.elim | succ n => exact ⟨hot119.1, hot119.2.1, fun c hc => (hot119.2.2 c hc).up⟩
      have t2 : (putT p.names name p.items q)[k2]? = some t119 := by rcases Nat.lt_or_ge i a_ with h_ | h_; (rw [hj.2.2 h_, putT_lt hlen (by omega)]; exact ht120); (have h2_ := putT_ge (x := q) hlen (i := i) (by omega) e45 hne ht120; rw [← hc_, ← hk9 h_] at h2_; exact h2_)
      refine dM 8 [(some 58, .is (.pointer (some ⟨W13.heap.size, 4, none⟩))), (some 59, .is (iv2)), (some 60, .is (.pointer (some ⟨w.heap.size, 4, none⟩))), (some 61, .is (p.iv)), (some 62, .is (.int .i64 (i : Int))), (some 63, .by fun u W => PtR (B107 :: Bn :: Bi :: W13.heap.size :: W7.heap.size :: W2.heap.size :: w.heap.size :: L) W u (encT t119)), (some 64, .is (.agg #[.int .i64 t119.kind, .int .i64 t119.num, .string t119.text, t119.nv, t119.iv])), (some 65, .by fun u W => RdF 5 (B107 :: Bn :: Bi :: W13.heap.size :: W7.heap.size :: W2.heap.size :: w.heap.size :: L) W u [[.int .i64 t119.kind, .int .i64 t119.num, .string t119.text, t119.nv, t119.iv]])] [[], [0], [], [2], [], [3, 4], [5], [6]] ⟨fun _ _ _ hb h => h.below hb, fun _ _ _ hb h => h.below hb, trivial⟩ ?_ ?_
      ·
       refine Dc (fun Wd hd => ?_) ?_
       ·
        exact Dd (dx_fld (o1 := 4) rfl ty_fld_27_4_4 rfl rfl) rfl
       refine Dc (fun Wd hd => ?_) ?_
       ·
        have k118 := k118.below hd
        exact Dd (dx_load rfl ty_one_25 rfl (k118.cell (k := 4) rfl)) rfl
       refine Dc (fun Wd hd => ?_) ?_
       ·
        exact Dd (dx_fld (o1 := 4) rfl ty_fld_27_4_4 rfl rfl) rfl
       refine Dc (fun Wd hd => ?_) ?_
       ·
        have k3 := k3.below hd
        exact Dd (dx_load rfl ty_one_25 rfl (k3.cell (k := 4) rfl)) rfl
       refine Dc (fun Wd hd => ?_) ?_
       ·
        exact Dd (dx_move rfl rfl) rfl
       refine Dc (fun Wd hd => ?_) ?_
       ·
        have hip := hip.below hd
        exact (dx_idxF i rfl ty_slice_25 rfl rfl hip (by omega) (at_mapX ht120)).mono (fun v W' h => ⟨by rw [← h.1]; exact Below.refl _ _, by rw [← h.1]; exact h.2⟩)
       refine Dc (fun Wd hd => ?_) ?_
       ·
        intro u12_5 p12_5
        exact Dd (dx_loadPN rfl ty_agg_27_5 rfl p12_5 rfl) rfl
       refine Dc (fun Wd hd => ?_) ?_
       ·
        exact (dx_lit1 (r := [.int .i64 t119.kind, .int .i64 t119.num, .string t119.text, t119.nv, t119.iv]) rfl ty_ap_25 (by decide) (by decide) rfl rfl rfl).mono (fun v W' h => ⟨h.2.1, h.1.notin (LL.below hL hd) (Nat.le_refl _)⟩)
       exact trivial
      ·
       intro W121 b122
       intro u12_5 p12_5
       intro u12_7 p12_7
       replace hnp := hnp.below b122
       replace hip := hip.below b122
       replace hcp := hcp.below b122
       replace hnq := hnq.below b122
       replace hiq := hiq.below b122
       replace hcq := hcq.below b122
       replace hag := hag.below b122
       replace hts := hts.below b122
       replace k3 := k3.below b122
       replace k8 := k8.below b122
       replace k14 := k14.below b122
       replace k118 := k118.below b122
       replace hOi := hOi.below b122
       replace k103 := k103.below b122
       replace hB := below_then hB b122
       replace hL := LL.below hL b122
       refine Ge (dx_apO' (rs := (((putT p.names name p.items q).take k2).map encT)) (news := [encT t119]) rfl ty_ap_25 rfl rfl hOi (RdF.less (L' := []) p12_7 (fun x hx => by cases hx)) (fun r hr => by rw [List.mem_singleton.1 hr]; exact (hcp t119 (List.mem_of_getElem? ht120)).oc) (by simp only [List.length_map, List.length_append, List.length_cons, List.length_nil]; unfold maxLen; omega) (by simp only [List.length_map, List.length_append, List.length_cons, List.length_nil]; omega)) rfl rfl ?_
       rintro u123 W124 ⟨B129, k125, g128⟩
       rw [show (((putT p.names name p.items q).take k2).map encT) ++ [encT t119] = ((((putT p.names name p.items q).take k2) ++ [t119]).map encT) from by simp only [List.map_append, List.map_cons, List.map_nil]] at k125
       have q131 := hag.2.1
       have l132 : b0 ≤ B129 := g128.le hbi (by omega)
       have n136 : W13.heap.size ≠ B129 := k118.grow_ne g128 n98.symm
       have n137 : B107 ≠ B129 := k103.grow_ne g128 n115.symm
       have l130 := g128.le lbi hB.size
       replace hnp := hnp.grow' g128 (.tail _ (.tail _ (.head _)))
       replace hip := hip.grow' g128 (.tail _ (.tail _ (.head _)))
       replace hcp := hcp.grow' g128 (.tail _ (.tail _ (.head _)))
       replace hnq := hnq.grow' g128 (.tail _ (.tail _ (.head _)))
       replace hiq := hiq.grow' g128 (.tail _ (.tail _ (.head _)))
       replace hcq := hcq.grow' g128 (.tail _ (.tail _ (.head _)))
       replace hag := hag.grow' g128 (.tail _ (.tail _ (.head _)))
       replace hts := hts.grow' g128 (.tail _ (.tail _ (.head _)))
       replace k3 := k3.grow g128 n92.symm
       replace k8 := k8.grow g128 n94.symm
       replace k14 := k14.grow g128 n96.symm
       replace k118 := k118.grow g128 n98.symm
       replace k103 := k103.grow g128 n115.symm
       replace hB := g128.below hB lbi hB.size
       replace hL := LL.grow hL g128 k125.lt
       refine Va (dx_fld (o1 := 4) rfl ty_fld_27_4_4 rfl rfl) rfl rfl ?_
       refine WL.do (dx_store (cs' := [.int .i64 6, .int .i64 0, .string ⟨#[]⟩, u101, u123]) (vs := [u123]) rfl ty_size_25_1 rfl rfl (oc_one k125.one) (oC k125.one oc_nil) k118 rfl (nB rfl) rfl) rfl ?_
       rintro _ W138 ⟨k140, o139⟩
       replace k3 := k3.other o139 n25
       replace k8 := k8.other o139 n26
       replace k14 := k14.other o139 n27
       replace k103 := k103.other o139 n114.symm
       replace k125 := k125.other o139 n136.symm
       clear k118
       replace hnp := hnp.only o139 (.tail _ (.tail _ (.tail _ (.tail _ (.head _)))))
       replace hip := hip.only o139 (.tail _ (.tail _ (.tail _ (.tail _ (.head _)))))
       replace hcp := hcp.only o139 (.tail _ (.tail _ (.tail _ (.tail _ (.head _)))))
       replace hnq := hnq.only o139 (.tail _ (.tail _ (.tail _ (.tail _ (.head _)))))
       replace hiq := hiq.only o139 (.tail _ (.tail _ (.tail _ (.tail _ (.head _)))))
       replace hcq := hcq.only o139 (.tail _ (.tail _ (.tail _ (.tail _ (.head _)))))
       replace hag := hag.only o139 (.tail _ (.tail _ (.tail _ (.tail _ (.head _)))))
       replace hts := hts.only o139 (.tail _ (.tail _ (.tail _ (.tail _ (.head _)))))
       replace hB := o139.below hB l28
       replace hL := LL.only hL o139
       refine Ni (hK40 (Rg (Pu rfl (Va (dx_add (r := (i : Int) + 1) rfl rfl rfl (wrap64_id (by omega))) rfl rfl (Pu rfl (Ni ?_))))))
       have eputN : (((putN p.names name).take k2) ++ [r44]) = (putN p.names name).take (k2 + 1) := by rw [take_add n2]
       have eputT : (((putT p.names name p.items q).take k2) ++ [t119]) = (putT p.names name p.items q).take (k2 + 1) := by rw [take_add t2]
       have hts2 : RdTs (n + 1) (B107 :: B129 :: W13.heap.size :: W7.heap.size :: W2.heap.size :: w.heap.size :: L) W138 (((putT p.names name p.items q).take k2) ++ [t119]) := fun c hc_ => by
        simp only [List.mem_append, List.mem_singleton, or_assoc] at hc_
        rcases hc_ with h_ | h_
        · exact (hts c h_).less (fun x hx => by simp only [List.mem_cons] at hx ⊢; rcases hx with h_ | h_ | h_ <;> simp [h_])
        · (rw [h_]; exact (hcp t119 (List.mem_of_getElem? ht120)).up.less (fun x hx => by simp only [List.mem_cons] at hx ⊢; rcases hx with h_ | h_ | h_ <;> simp [h_]))
       have hm2 : MembI (n + 1) b0 (W13.heap.size :: W7.heap.size :: W2.heap.size :: w.heap.size :: L) u101 ((putN p.names name).take (k2 + 1)) u123 ((putT p.names name p.items q).take (k2 + 1)) W138 := ⟨hb0L, .inr ⟨B107, B129, n137, by omega, by omega, (by rw [← eputN]; exact k103), (by rw [← eputT]; exact k125), (by rw [← eputT]; exact hts2)⟩⟩
       have hL_ := hL.less (fun x hx => (.tail _ (.tail _ (.tail _ (.tail _ hx)))))
       replace hag : AgL W29 (W13.heap.size :: W7.heap.size :: W2.heap.size :: w.heap.size :: L) (W13.heap.size :: W7.heap.size :: W2.heap.size :: w.heap.size :: L) W138 := ⟨fun _ h _ => h, hag.2⟩
       replace hnp := hnp6.agree hag.2
       replace hip := hip6.agree hag.2
       replace hnq := hnq6.agree hag.2
       replace hiq := hiq6.agree hag.2
       replace hcp : RdTs n (W13.heap.size :: W7.heap.size :: W2.heap.size :: w.heap.size :: L) W138 p.items := fun c hc_ => (hcp6 c hc_).agree hag.2
       replace hcq : RdTs n (W13.heap.size :: W7.heap.size :: W2.heap.size :: w.heap.size :: L) W138 q.items := fun c hc_ => (hcq6 c hc_).agree hag.2
       replace hL := hL_
       exact hK35 (i + 1) (k2 + 1) u101 u123 ⟨(by omega), (by omega), (fun h_ => by have k9_ := hk9 (by omega); omega), (fun h_ => by have k9_ := hj.2.2 (by omega); omega), hB, hL, hnp, hip, hcp, hnq, hiq, hcq, hag, hm2, k3, k8, k14, k140⟩ (by omega) (by repeat first | exact trivial | refine aR ?_ | refine aI (by omega) ?_ | refine And.intro (congrArg (fun z : Bool => some (Value.bool z)) (by first | exact (decide_eq_true (by omega)).symm | exact (decide_eq_false (by omega)).symm)) ?_)
   ·
    replace c48 := bnot_f c48
    replace c48 := dT c48
    have hc0 := putC_found (nm := name) hris (by rw [← (show r44 = name by first | assumption | exact Classical.not_not.1 (by assumption) | simp_all)]; exact e45)
    refine WC.skip (hK40 (Rg (Pu rfl (Va (dx_add (r := (i : Int) + 1) rfl rfl rfl (wrap64_id (by omega))) rfl rfl (Pu rfl (Ni ?_))))))
    exact hK35 (i + 1) k2 nv2 iv2 ⟨(by omega), (by omega), (fun h_ => by have k9_ := hj.2.1 (by omega); omega), (fun h_ => by omega), hB, hL, hnp, hip, hcp, hnq, hiq, hcq, hag, hm, k3, k8, k14, k31⟩ (by omega) (by repeat first | exact trivial | refine aR ?_ | refine aI (by omega) ?_ | refine And.intro (congrArg (fun z : Bool => some (Value.bool z)) (by first | exact (decide_eq_true (by omega)).symm | exact (decide_eq_false (by omega)).symm)) ?_)
  refine Sq fun K141 hK141 => ?_
  by_cases hda : a_ < i
  ·
   have hkk := hk1 hda
   rw [decide_eq_true hda]
   refine Rg (Pu rfl (Va (dx_not rfl rfl) rfl rfl (Pu rfl (Of rfl (Of rfl (Of rfl (Of rfl ?_)))))))
   refine Of rfl (Of rfl (Of rfl (Pu rfl (Ni (hK141 (WC.condF rfl (WC.skip ?_)))))))
   exact hJ6 k nv iv _ _ ⟨(by omega), ⟨fun h_ => by omega, fun h_ => by omega, fun h_ => by omega⟩, hB, hL, hnp, hip, hcp, hnq, hiq, hcq, hag, hm, k3, k8, k14, k31⟩ (by repeat first | exact trivial | refine aR ?_ | refine aI (by omega) ?_ | refine And.intro (congrArg (fun z : Bool => some (Value.bool z)) (by first | exact (decide_eq_true (by omega)).symm | exact (decide_eq_false (by omega)).symm)) ?_)
  ·
   have hkk := hk2 (by omega)
   rw [decide_eq_false hda]
   refine Rg (Pu rfl (Va (dx_not rfl rfl) rfl rfl (Pu rfl (Va (dx_fld (o1 := 3) rfl ty_fld_27_3_3 rfl rfl) rfl rfl (Va (dx_load rfl ty_one_24 rfl (k3.cell (k := 3) rfl)) rfl rfl (Pu rfl ?_))))))
   obtain ⟨r142, e143⟩ : ∃ x, p.names[i]? = some x := ⟨_, List.getElem?_eq_getElem (by omega)⟩
   refine Ge (dx_idxF i rfl ty_slice_24 rfl rfl hnp (by omega) (at_mapX e143)) rfl rfl ?_
   rintro u144 _ ⟨rfl, p145⟩
   refine Va (dx_loadP rfl ty_one_9 rfl p145) rfl rfl (Pu rfl (Va (dx_geqT rfl rfl rfl) rfl rfl (Pu rfl (Ni (hK141 ?_)))))
   refine WC.cond rfl (fun c146 => ?_) (fun c146 => ?_)
   ·
    replace c146 := bnot_t c146
    refine Sq fun K147 hK147 => ?_
    have hia : i = a_ := by rw [ha_]; exact lb_is e143 (by omega) c146
    have n1 : (putN p.names name)[k]? = some name := by rw [show k = lbT name p.names by omega]; exact putN_a
    have t1 : (putT p.names name p.items q)[k]? = some q := by rw [show k = lbT name p.names by omega]; exact putT_a hlen
    obtain ⟨-, hm⟩ := hm
    have hlN : ((putN p.names name).take k).length ≤ p.names.length + 1 ∧ ((putT p.names name p.items q).take k).length ≤ p.names.length + 1 := ⟨by rw [List.length_take]; omega, by rw [List.length_take]; omega⟩
    rcases hm with ⟨rfl, rfl, hns0, hts0⟩ | ⟨Bn, Bi, hni, hbn, hbi, hOn, hOi, hts⟩
    ·
     refine Rg (Va (dx_fld (o1 := 3) rfl ty_fld_27_3_3 rfl rfl) rfl rfl (Va (dx_load rfl ty_one_24 rfl (k31.cell (k := 3) rfl)) rfl rfl (Pu rfl ?_)))
     refine Ge (dx_lit1 (r := [.string name]) rfl ty_ap_24 (by decide) (by decide) rfl rfl rfl) rfl rfl ?_
     rintro u152 W148 ⟨k149, b150, z151⟩
     have l157 := hB.size
     replace hnp := hnp.more b150 (Nat.le_refl _)
     replace hip := hip.more b150 (Nat.le_refl _)
     replace hcp := hcp.more b150 (Nat.le_refl _)
     replace hnq := hnq.more b150 (Nat.le_refl _)
     replace hiq := hiq.more b150 (Nat.le_refl _)
     replace hcq := hcq.more b150 (Nat.le_refl _)
     replace hag := hag.more b150 (Nat.le_refl _)
     replace k3 := k3.below b150
     replace k8 := k8.below b150
     replace k14 := k14.below b150
     replace k31 := k31.below b150
     replace hB := below_then hB b150
     replace hL := LL.more hL z151
     refine Ge (dx_apF (rs := []) (news := [eS name]) rfl ty_ap_24 rfl rfl (RdF.nil (L := []) (by decide)) (k149.rd (L := []) (by simp)) (by simp) (by simp [maxLen]) (by simp)) rfl rfl ?_
     rintro u158 W159 ⟨k160, b161, z162⟩
     have q165 := hag.2.1
     have l166 : b0 ≤ W148.heap.size := by omega
     have n170 : W13.heap.size ≠ W148.heap.size := Nat.ne_of_lt k31.lt
     have l172 := hB.size
     replace hnp := hnp.more b161 (Nat.le_refl _)
     replace hip := hip.more b161 (Nat.le_refl _)
     replace hcp := hcp.more b161 (Nat.le_refl _)
     replace hnq := hnq.more b161 (Nat.le_refl _)
     replace hiq := hiq.more b161 (Nat.le_refl _)
     replace hcq := hcq.more b161 (Nat.le_refl _)
     replace hag := hag.more b161 (Nat.le_refl _)
     replace k3 := k3.below b161
     replace k8 := k8.below b161
     replace k14 := k14.below b161
     replace k31 := k31.below b161
     replace hB := below_then hB b161
     replace hL := LL.more hL z162
     refine Va (dx_fld (o1 := 3) rfl ty_fld_27_3_3 rfl rfl) rfl rfl ?_
     refine WL.do (dx_store (cs' := [.int .i64 6, .int .i64 0, .string ⟨#[]⟩, u158, .slice none 0 0]) (vs := [u158]) rfl ty_size_24_1 rfl rfl (oc_one k160.one) (oC k160.one oc_nil) k31 rfl (nB rfl) rfl) rfl ?_
     rintro _ W173 ⟨k175, o174⟩
     replace k3 := k3.other o174 n25
     replace k8 := k8.other o174 n26
     replace k14 := k14.other o174 n27
     replace k160 := k160.other o174 n170.symm
     clear k31
     replace hnp := hnp.only o174 (.tail _ (.tail _ (.head _)))
     replace hip := hip.only o174 (.tail _ (.tail _ (.head _)))
     replace hcp := hcp.only o174 (.tail _ (.tail _ (.head _)))
     replace hnq := hnq.only o174 (.tail _ (.tail _ (.head _)))
     replace hiq := hiq.only o174 (.tail _ (.tail _ (.head _)))
     replace hcq := hcq.only o174 (.tail _ (.tail _ (.head _)))
     replace hag := hag.only o174 (.tail _ (.tail _ (.head _)))
     replace hB := o174.below hB l28
     replace hL := LL.only hL o174
     refine Ni (hK147 (Sq fun K176 hK176 => (Rg (Va (dx_fld (o1 := 4) rfl ty_fld_27_4_4 rfl rfl) rfl rfl (Va (dx_load rfl ty_one_25 rfl (k175.cell (k := 4) rfl)) rfl rfl (Va (dx_loadN rfl ty_agg_27_5 rfl k8.range rfl) rfl rfl ?_))))))
     refine Ge (dx_lit1 (r := [.int .i64 q.kind, .int .i64 q.num, .string q.text, q.nv, q.iv]) rfl ty_ap_25 (by decide) (by decide) rfl rfl rfl) rfl rfl ?_
     rintro u181 W177 ⟨k178, b179, z180⟩
     have l188 := hB.size
     replace hnp := hnp.more b179 (Nat.le_refl _)
     replace hip := hip.more b179 (Nat.le_refl _)
     replace hcp := hcp.more b179 (Nat.le_refl _)
     replace hnq := hnq.more b179 (Nat.le_refl _)
     replace hiq := hiq.more b179 (Nat.le_refl _)
     replace hcq := hcq.more b179 (Nat.le_refl _)
     replace hag := hag.more b179 (Nat.le_refl _)
     replace k3 := k3.below b179
     replace k8 := k8.below b179
     replace k14 := k14.below b179
     replace k175 := k175.below b179
     replace k160 := k160.below b179
     replace hB := below_then hB b179
     replace hL := LL.more hL z180
     refine Ge (dx_apF (rs := []) (news := [encT q]) rfl ty_ap_25 rfl rfl (RdF.nil (L := []) (by decide)) (k178.rd (L := []) (by simp)) (by simp) (by simp [maxLen]) (by simp)) rfl rfl ?_
     rintro u189 W190 ⟨k191, b192, z193⟩
     have q196 := hag.2.1
     have l197 : b0 ≤ W177.heap.size := by omega
     have n201 : W13.heap.size ≠ W177.heap.size := Nat.ne_of_lt k175.lt
     have n203 : W148.heap.size ≠ W177.heap.size := Nat.ne_of_lt k160.lt
     have l205 := hB.size
     replace hnp := hnp.more b192 (Nat.le_refl _)
     replace hip := hip.more b192 (Nat.le_refl _)
     replace hcp := hcp.more b192 (Nat.le_refl _)
     replace hnq := hnq.more b192 (Nat.le_refl _)
     replace hiq := hiq.more b192 (Nat.le_refl _)
     replace hcq := hcq.more b192 (Nat.le_refl _)
     replace hag := hag.more b192 (Nat.le_refl _)
     replace k3 := k3.below b192
     replace k8 := k8.below b192
     replace k14 := k14.below b192
     replace k175 := k175.below b192
     replace k160 := k160.below b192
     replace hB := below_then hB b192
     replace hL := LL.more hL z193
     refine Va (dx_fld (o1 := 4) rfl ty_fld_27_4_4 rfl rfl) rfl rfl ?_
     refine WL.do (dx_store (cs' := [.int .i64 6, .int .i64 0, .string ⟨#[]⟩, u158, u189]) (vs := [u189]) rfl ty_size_25_1 rfl rfl (oc_one k191.one) (oC k191.one oc_nil) k175 rfl (nB rfl) rfl) rfl ?_
     rintro _ W206 ⟨k208, o207⟩
     replace k3 := k3.other o207 n25
     replace k8 := k8.other o207 n26
     replace k14 := k14.other o207 n27
     replace k160 := k160.other o207 n170.symm
     replace k191 := k191.other o207 n201.symm
     clear k175
     replace hnp := hnp.only o207 (.tail _ (.tail _ (.tail _ (.tail _ (.head _)))))
     replace hip := hip.only o207 (.tail _ (.tail _ (.tail _ (.tail _ (.head _)))))
     replace hcp := hcp.only o207 (.tail _ (.tail _ (.tail _ (.tail _ (.head _)))))
     replace hnq := hnq.only o207 (.tail _ (.tail _ (.tail _ (.tail _ (.head _)))))
     replace hiq := hiq.only o207 (.tail _ (.tail _ (.tail _ (.tail _ (.head _)))))
     replace hcq := hcq.only o207 (.tail _ (.tail _ (.tail _ (.tail _ (.head _)))))
     replace hag := hag.only o207 (.tail _ (.tail _ (.tail _ (.tail _ (.head _)))))
     replace hB := o207.below hB l28
     replace hL := LL.only hL o207
     refine Ni (hK176 (Rg (Pu rfl (Ni ?_))))
     have eputN : [name] = (putN p.names name).take (k + 1) := by rw [show [name] = (putN p.names name).take k ++ [name] from by rw [hns0]; rfl]; rw [take_add n1]
     have eputT : [q] = (putT p.names name p.items q).take (k + 1) := by rw [show [q] = (putT p.names name p.items q).take k ++ [q] from by rw [hts0]; rfl]; rw [take_add t1]
     have hts2 : RdTs (n + 1) (W148.heap.size :: W177.heap.size :: W13.heap.size :: W7.heap.size :: W2.heap.size :: w.heap.size :: L) W206 [q] := fun c hc_ => by
      simp only [List.mem_append, List.mem_singleton, or_assoc] at hc_
      have h_ := hc_
      (rw [h_]; exact (show RdT (n + 1) (W177.heap.size :: W173.heap.size :: W148.heap.size :: W36.heap.size :: W13.heap.size :: W7.heap.size :: W2.heap.size :: w.heap.size :: L) W206 q from ⟨hnq, hiq, hcq⟩).less (fun x hx => by simp only [List.mem_cons] at hx ⊢; rcases hx with h_ | h_ | h_ <;> simp [h_]))
     have hm2 : MembI (n + 1) b0 (W13.heap.size :: W7.heap.size :: W2.heap.size :: w.heap.size :: L) u158 ((putN p.names name).take (k + 1)) u189 ((putT p.names name p.items q).take (k + 1)) W206 := ⟨hb0L, .inr ⟨W148.heap.size, W177.heap.size, n203, by omega, by omega, (by rw [← eputN]; exact k160), (by rw [← eputT]; exact k191), (by rw [← eputT]; exact hts2)⟩⟩
     have hL_ := hL.less (fun x hx => (.tail _ (.tail _ (.tail _ (.tail _ hx)))))
     replace hag : AgL W29 (W13.heap.size :: W7.heap.size :: W2.heap.size :: w.heap.size :: L) (W13.heap.size :: W7.heap.size :: W2.heap.size :: w.heap.size :: L) W206 := ⟨fun _ h _ => h, hag.2⟩
     replace hnp := hnp6.agree hag.2
     replace hip := hip6.agree hag.2
     replace hnq := hnq6.agree hag.2
     replace hiq := hiq6.agree hag.2
     replace hcp : RdTs n (W13.heap.size :: W7.heap.size :: W2.heap.size :: w.heap.size :: L) W206 p.items := fun c hc_ => (hcp6 c hc_).agree hag.2
     replace hcq : RdTs n (W13.heap.size :: W7.heap.size :: W2.heap.size :: w.heap.size :: L) W206 q.items := fun c hc_ => (hcq6 c hc_).agree hag.2
     replace hL := hL_
     exact hJ6 (k + 1) u158 u189 _ _ ⟨(by omega), ⟨fun h_ => by omega, fun h_ => by omega, fun h_ => by omega⟩, hB, hL, hnp, hip, hcp, hnq, hiq, hcq, hag, hm2, k3, k8, k14, k208⟩ (by repeat first | exact trivial | refine aR ?_ | refine aI (by omega) ?_ | refine And.intro (congrArg (fun z : Bool => some (Value.bool z)) (by first | exact (decide_eq_true (by omega)).symm | exact (decide_eq_false (by omega)).symm)) ?_)
    ·
     have n209 : Bn ≠ w.heap.size := by have := hb0L (w.heap.size) (.tail _ (.tail _ (.tail _ (.head _)))); omega
     have n210 : Bi ≠ w.heap.size := by have := hb0L (w.heap.size) (.tail _ (.tail _ (.tail _ (.head _)))); omega
     have n211 : Bn ≠ W2.heap.size := by have := hb0L (W2.heap.size) (.tail _ (.tail _ (.head _))); omega
     have n212 : Bi ≠ W2.heap.size := by have := hb0L (W2.heap.size) (.tail _ (.tail _ (.head _))); omega
     have n213 : Bn ≠ W7.heap.size := by have := hb0L (W7.heap.size) (.tail _ (.head _)); omega
     have n214 : Bi ≠ W7.heap.size := by have := hb0L (W7.heap.size) (.tail _ (.head _)); omega
     have n215 : Bn ≠ W13.heap.size := by have := hb0L (W13.heap.size) (.head _); omega
     have n216 : Bi ≠ W13.heap.size := by have := hb0L (W13.heap.size) (.head _); omega
     have lbn : w.heap.size ≤ Bn := by omega
     have lbi : w.heap.size ≤ Bi := by omega
     replace hag := (hag.add (B := Bi) (by omega)).add (B := Bn) (by omega)
     replace hL := LL.cons (LL.cons hL hOi.lt) hOn.lt
     replace hnp := hag.rd hnp6
     replace hip := hag.rd hip6
     replace hnq := hag.rd hnq6
     replace hiq := hag.rd hiq6
     replace hcp : RdTs n (Bn :: Bi :: W13.heap.size :: W7.heap.size :: W2.heap.size :: w.heap.size :: L) W36 p.items := fun c hc_ => hag.rt (hcp6 c hc_)
     replace hcq : RdTs n (Bn :: Bi :: W13.heap.size :: W7.heap.size :: W2.heap.size :: w.heap.size :: L) W36 q.items := fun c hc_ => hag.rt (hcq6 c hc_)
     refine Rg (Va (dx_fld (o1 := 3) rfl ty_fld_27_3_3 rfl rfl) rfl rfl (Va (dx_load rfl ty_one_24 rfl (k31.cell (k := 3) rfl)) rfl rfl (Pu rfl ?_)))
     refine Ge (dx_lit1 (r := [.string name]) rfl ty_ap_24 (by decide) (by decide) rfl rfl rfl) rfl rfl ?_
     rintro u221 W217 ⟨k218, b219, z220⟩
     have l228 := hB.size
     replace hnp := hnp.more b219 (Nat.le_refl _)
     replace hip := hip.more b219 (Nat.le_refl _)
     replace hcp := hcp.more b219 (Nat.le_refl _)
     replace hnq := hnq.more b219 (Nat.le_refl _)
     replace hiq := hiq.more b219 (Nat.le_refl _)
     replace hcq := hcq.more b219 (Nat.le_refl _)
     replace hag := hag.more b219 (Nat.le_refl _)
     replace hts := hts.more b219 (Nat.le_refl _)
     replace k3 := k3.below b219
     replace k8 := k8.below b219
     replace k14 := k14.below b219
     replace k31 := k31.below b219
     replace hOn := hOn.below b219
     replace hOi := hOi.below b219
     replace hB := below_then hB b219
     replace hL := LL.more hL z220
     refine Ge (dx_apO' (rs := (((putN p.names name).take k).map eS)) (news := [eS name]) rfl ty_ap_24 rfl rfl hOn (k218.rd (L := []) (by simp)) (fun r hr => by rw [List.mem_singleton.1 hr]; exact (oC rfl oc_nil)) (by simp only [List.length_map, List.length_append, List.length_cons, List.length_nil]; unfold maxLen; omega) (by simp only [List.length_map, List.length_append, List.length_cons, List.length_nil]; omega)) rfl rfl ?_
     rintro u229 W230 ⟨B235, k231, g234⟩
     rw [show (((putN p.names name).take k).map eS) ++ [eS name] = ((((putN p.names name).take k) ++ [name]).map eS) from by simp only [List.map_append, List.map_cons, List.map_nil]] at k231
     have q237 := hag.2.1
     have l238 : b0 ≤ B235 := g234.le hbn (by omega)
     have n242 : W13.heap.size ≠ B235 := k31.grow_ne g234 n215.symm
     have n243 : Bi ≠ B235 := hOi.grow_ne g234 hni.symm
     have l236 := g234.le lbn hB.size
     replace hnp := hnp.grow' g234 (.tail _ (.head _))
     replace hip := hip.grow' g234 (.tail _ (.head _))
     replace hcp := hcp.grow' g234 (.tail _ (.head _))
     replace hnq := hnq.grow' g234 (.tail _ (.head _))
     replace hiq := hiq.grow' g234 (.tail _ (.head _))
     replace hcq := hcq.grow' g234 (.tail _ (.head _))
     replace hag := hag.grow' g234 (.tail _ (.head _))
     replace hts := hts.grow' g234 (.tail _ (.head _))
     replace k3 := k3.grow g234 n209.symm
     replace k8 := k8.grow g234 n211.symm
     replace k14 := k14.grow g234 n213.symm
     replace k31 := k31.grow g234 n215.symm
     replace hOi := hOi.grow g234 hni.symm
     replace hB := g234.below hB lbn hB.size
     replace hL := LL.grow hL g234 k231.lt
     refine Va (dx_fld (o1 := 3) rfl ty_fld_27_3_3 rfl rfl) rfl rfl ?_
     refine WL.do (dx_store (cs' := [.int .i64 6, .int .i64 0, .string ⟨#[]⟩, u229, iv]) (vs := [u229]) rfl ty_size_24_1 rfl rfl (oc_one k231.one) (oC k231.one oc_nil) k31 rfl (nB rfl) rfl) rfl ?_
     rintro _ W245 ⟨k247, o246⟩
     replace k3 := k3.other o246 n25
     replace k8 := k8.other o246 n26
     replace k14 := k14.other o246 n27
     replace hOi := hOi.other o246 n216
     replace k231 := k231.other o246 n242.symm
     clear k31
     replace hnp := hnp.only o246 (.tail _ (.tail _ (.tail _ (.tail _ (.head _)))))
     replace hip := hip.only o246 (.tail _ (.tail _ (.tail _ (.tail _ (.head _)))))
     replace hcp := hcp.only o246 (.tail _ (.tail _ (.tail _ (.tail _ (.head _)))))
     replace hnq := hnq.only o246 (.tail _ (.tail _ (.tail _ (.tail _ (.head _)))))
     replace hiq := hiq.only o246 (.tail _ (.tail _ (.tail _ (.tail _ (.head _)))))
     replace hcq := hcq.only o246 (.tail _ (.tail _ (.tail _ (.tail _ (.head _)))))
     replace hag := hag.only o246 (.tail _ (.tail _ (.tail _ (.tail _ (.head _)))))
     replace hts := hts.only o246 (.tail _ (.tail _ (.tail _ (.tail _ (.head _)))))
     replace hB := o246.below hB l28
     replace hL := LL.only hL o246
     refine Ni (hK147 (Sq fun K248 hK248 => (Rg (Va (dx_fld (o1 := 4) rfl ty_fld_27_4_4 rfl rfl) rfl rfl (Va (dx_load rfl ty_one_25 rfl (k247.cell (k := 4) rfl)) rfl rfl (Va (dx_loadN rfl ty_agg_27_5 rfl k8.range rfl) rfl rfl ?_))))))
     refine Ge (dx_lit1 (r := [.int .i64 q.kind, .int .i64 q.num, .string q.text, q.nv, q.iv]) rfl ty_ap_25 (by decide) (by decide) rfl rfl rfl) rfl rfl ?_
     rintro u253 W249 ⟨k250, b251, z252⟩
     have l261 := hB.size
     replace hnp := hnp.more b251 (Nat.le_refl _)
     replace hip := hip.more b251 (Nat.le_refl _)
     replace hcp := hcp.more b251 (Nat.le_refl _)
     replace hnq := hnq.more b251 (Nat.le_refl _)
     replace hiq := hiq.more b251 (Nat.le_refl _)
     replace hcq := hcq.more b251 (Nat.le_refl _)
     replace hag := hag.more b251 (Nat.le_refl _)
     replace hts := hts.more b251 (Nat.le_refl _)
     replace k3 := k3.below b251
     replace k8 := k8.below b251
     replace k14 := k14.below b251
     replace k247 := k247.below b251
     replace hOi := hOi.below b251
     replace k231 := k231.below b251
     replace hB := below_then hB b251
     replace hL := LL.more hL z252
     refine Ge (dx_apO' (rs := (((putT p.names name p.items q).take k).map encT)) (news := [encT q]) rfl ty_ap_25 rfl rfl hOi (k250.rd (L := []) (by simp)) (fun r hr => by rw [List.mem_singleton.1 hr]; exact (show RdT (n + 1) (W245.heap.size :: B235 :: W36.heap.size :: Bn :: Bi :: W13.heap.size :: W7.heap.size :: W2.heap.size :: w.heap.size :: L) W249 q from ⟨hnq, hiq, hcq⟩).oc) (by simp only [List.length_map, List.length_append, List.length_cons, List.length_nil]; unfold maxLen; omega) (by simp only [List.length_map, List.length_append, List.length_cons, List.length_nil]; omega)) rfl rfl ?_
     rintro u262 W263 ⟨B268, k264, g267⟩
     rw [show (((putT p.names name p.items q).take k).map encT) ++ [encT q] = ((((putT p.names name p.items q).take k) ++ [q]).map encT) from by simp only [List.map_append, List.map_cons, List.map_nil]] at k264
     have q270 := hag.2.1
     have l271 : b0 ≤ B268 := g267.le hbi (by omega)
     have n275 : W13.heap.size ≠ B268 := k247.grow_ne g267 n216.symm
     have n277 : B235 ≠ B268 := k231.grow_ne g267 n243.symm
     have l269 := g267.le lbi hB.size
     replace hnp := hnp.grow' g267 (.tail _ (.tail _ (.tail _ (.tail _ (.head _)))))
     replace hip := hip.grow' g267 (.tail _ (.tail _ (.tail _ (.tail _ (.head _)))))
     replace hcp := hcp.grow' g267 (.tail _ (.tail _ (.tail _ (.tail _ (.head _)))))
     replace hnq := hnq.grow' g267 (.tail _ (.tail _ (.tail _ (.tail _ (.head _)))))
     replace hiq := hiq.grow' g267 (.tail _ (.tail _ (.tail _ (.tail _ (.head _)))))
     replace hcq := hcq.grow' g267 (.tail _ (.tail _ (.tail _ (.tail _ (.head _)))))
     replace hag := hag.grow' g267 (.tail _ (.tail _ (.tail _ (.tail _ (.head _)))))
     replace hts := hts.grow' g267 (.tail _ (.tail _ (.tail _ (.tail _ (.head _)))))
     replace k3 := k3.grow g267 n210.symm
     replace k8 := k8.grow g267 n212.symm
     replace k14 := k14.grow g267 n214.symm
     replace k247 := k247.grow g267 n216.symm
     replace k231 := k231.grow g267 n243.symm
     replace hB := g267.below hB lbi hB.size
     replace hL := LL.grow hL g267 k264.lt
     refine Va (dx_fld (o1 := 4) rfl ty_fld_27_4_4 rfl rfl) rfl rfl ?_
     refine WL.do (dx_store (cs' := [.int .i64 6, .int .i64 0, .string ⟨#[]⟩, u229, u262]) (vs := [u262]) rfl ty_size_25_1 rfl rfl (oc_one k264.one) (oC k264.one oc_nil) k247 rfl (nB rfl) rfl) rfl ?_
     rintro _ W279 ⟨k281, o280⟩
     replace k3 := k3.other o280 n25
     replace k8 := k8.other o280 n26
     replace k14 := k14.other o280 n27
     replace k231 := k231.other o280 n242.symm
     replace k264 := k264.other o280 n275.symm
     clear k247
     replace hnp := hnp.only o280 (.tail _ (.tail _ (.tail _ (.tail _ (.tail _ (.tail _ (.head _)))))))
     replace hip := hip.only o280 (.tail _ (.tail _ (.tail _ (.tail _ (.tail _ (.tail _ (.head _)))))))
     replace hcp := hcp.only o280 (.tail _ (.tail _ (.tail _ (.tail _ (.tail _ (.tail _ (.head _)))))))
     replace hnq := hnq.only o280 (.tail _ (.tail _ (.tail _ (.tail _ (.tail _ (.tail _ (.head _)))))))
     replace hiq := hiq.only o280 (.tail _ (.tail _ (.tail _ (.tail _ (.tail _ (.tail _ (.head _)))))))
     replace hcq := hcq.only o280 (.tail _ (.tail _ (.tail _ (.tail _ (.tail _ (.tail _ (.head _)))))))
     replace hag := hag.only o280 (.tail _ (.tail _ (.tail _ (.tail _ (.tail _ (.tail _ (.head _)))))))
     replace hts := hts.only o280 (.tail _ (.tail _ (.tail _ (.tail _ (.tail _ (.tail _ (.head _)))))))
     replace hB := o280.below hB l28
     replace hL := LL.only hL o280
     refine Ni (hK248 (Rg (Pu rfl (Ni ?_))))
     have eputN : (((putN p.names name).take k) ++ [name]) = (putN p.names name).take (k + 1) := by rw [take_add n1]
     have eputT : (((putT p.names name p.items q).take k) ++ [q]) = (putT p.names name p.items q).take (k + 1) := by rw [take_add t1]
     have hts2 : RdTs (n + 1) (B235 :: B268 :: W13.heap.size :: W7.heap.size :: W2.heap.size :: w.heap.size :: L) W279 (((putT p.names name p.items q).take k) ++ [q]) := fun c hc_ => by
      simp only [List.mem_append, List.mem_singleton, or_assoc] at hc_
      rcases hc_ with h_ | h_
      · exact (hts c h_).less (fun x hx => by simp only [List.mem_cons] at hx ⊢; rcases hx with h_ | h_ | h_ <;> simp [h_])
      · (rw [h_]; exact (show RdT (n + 1) (B268 :: W245.heap.size :: B235 :: W36.heap.size :: Bn :: Bi :: W13.heap.size :: W7.heap.size :: W2.heap.size :: w.heap.size :: L) W279 q from ⟨hnq, hiq, hcq⟩).less (fun x hx => by simp only [List.mem_cons] at hx ⊢; rcases hx with h_ | h_ | h_ <;> simp [h_]))
     have hm2 : MembI (n + 1) b0 (W13.heap.size :: W7.heap.size :: W2.heap.size :: w.heap.size :: L) u229 ((putN p.names name).take (k + 1)) u262 ((putT p.names name p.items q).take (k + 1)) W279 := ⟨hb0L, .inr ⟨B235, B268, n277, by omega, by omega, (by rw [← eputN]; exact k231), (by rw [← eputT]; exact k264), (by rw [← eputT]; exact hts2)⟩⟩
     have hL_ := hL.less (fun x hx => (.tail _ (.tail _ (.tail _ (.tail _ (.tail _ (.tail _ hx)))))))
     replace hag : AgL W29 (W13.heap.size :: W7.heap.size :: W2.heap.size :: w.heap.size :: L) (W13.heap.size :: W7.heap.size :: W2.heap.size :: w.heap.size :: L) W279 := ⟨fun _ h _ => h, hag.2⟩
     replace hnp := hnp6.agree hag.2
     replace hip := hip6.agree hag.2
     replace hnq := hnq6.agree hag.2
     replace hiq := hiq6.agree hag.2
     replace hcp : RdTs n (W13.heap.size :: W7.heap.size :: W2.heap.size :: w.heap.size :: L) W279 p.items := fun c hc_ => (hcp6 c hc_).agree hag.2
     replace hcq : RdTs n (W13.heap.size :: W7.heap.size :: W2.heap.size :: w.heap.size :: L) W279 q.items := fun c hc_ => (hcq6 c hc_).agree hag.2
     replace hL := hL_
     exact hJ6 (k + 1) u229 u262 _ _ ⟨(by omega), ⟨fun h_ => by omega, fun h_ => by omega, fun h_ => by omega⟩, hB, hL, hnp, hip, hcp, hnq, hiq, hcq, hag, hm2, k3, k8, k14, k281⟩ (by repeat first | exact trivial | refine aR ?_ | refine aI (by omega) ?_ | refine And.intro (congrArg (fun z : Bool => some (Value.bool z)) (by first | exact (decide_eq_true (by omega)).symm | exact (decide_eq_false (by omega)).symm)) ?_)
   ·
    replace c146 := bnot_f c146
    have hsl : sless r142 name = true := by first | assumption | simp_all
    refine WC.skip ?_
    have hilt := lb_not e143 hris hsl
    exact hJ6 k nv iv _ _ ⟨(by omega), ⟨fun h_ => by omega, fun h_ => by omega, fun h_ => by omega⟩, hB, hL, hnp, hip, hcp, hnq, hiq, hcq, hag, hm, k3, k8, k14, k31⟩ (by repeat first | exact trivial | refine aR ?_ | refine aI (by omega) ?_ | refine And.intro (congrArg (fun z : Bool => some (Value.bool z)) (by first | exact (decide_eq_true (by omega)).symm | exact (decide_eq_false (by omega)).symm)) ?_)
 ·
  replace c39 := dF c39
  refine WC.exit ?_
  refine hK33 (Sq fun K282 hK282 => (Sq fun K283 hK283 => ?_))
  have hie : i = p.names.length := by omega
  by_cases hda : a_ < i
  ·
   have hkk := hk1 hda
   rw [decide_eq_true hda]
   refine Rg (Pu rfl (Va (dx_not rfl rfl) rfl rfl (Ni (hK283 (WC.condF rfl (WC.skip (hK282 ?_)))))))
   refine Sq fun K284 hK284 => (Rg (Va (dx_loadN rfl ty_agg_27_5 rfl k31.range rfl) rfl rfl ?_))
   refine WL.do (dx_store (cs' := [.int .i64 6, .int .i64 0, .string ⟨#[]⟩, nv, iv]) (vs := [.int .i64 6, .int .i64 0, .string ⟨#[]⟩, nv, iv]) rfl ty_size_27_5 rfl rfl rfl (oC rfl (oC rfl (oC rfl (oC hm.one.1 (oC hm.one.2 oc_nil))))) k14 rfl (nB rfl) rfl) rfl ?_
   rintro _ W285 ⟨k287, o286⟩
   clear k14
   replace hm := hm.only o286 (.tail _ (.head _))
   replace hB := o286.below hB l19
   refine Ni (hK284 ?_)
   exact WC.ret fun a_ ha_ => hQ (cv_ret1 rfl (.agg rfl ty_agg_27_5 k287.range rfl) (by rw [List.take_of_length_le (show (putN p.names name).length ≤ k by omega), List.take_of_length_le (show (putT p.names name p.items q).length ≤ k by omega)] at hm; exact ⟨.mk 6 0 ⟨#[]⟩ nv (putN p.names name) iv (putT p.names name p.items q), rfl, (by rw [Tr.er_mk, putJ_eq, er_names, er_items, putT_map]), hm.tree (fun x hx => (.tail _ (.tail _ (.tail _ (.tail _ hx))))) 6 0 ⟨#[]⟩⟩) hB ha_)
  ·
   have hkk := hk2 (by omega)
   rw [decide_eq_false hda]
   refine Rg (Pu rfl (Va (dx_not rfl rfl) rfl rfl (Ni (hK283 (WC.condT rfl (Sq fun K288 hK288 => ?_))))))
   have n1 : (putN p.names name)[k]? = some name := by rw [show k = lbT name p.names by omega]; exact putN_a
   have t1 : (putT p.names name p.items q)[k]? = some q := by rw [show k = lbT name p.names by omega]; exact putT_a hlen
   obtain ⟨-, hm⟩ := hm
   have hlN : ((putN p.names name).take k).length ≤ p.names.length + 1 ∧ ((putT p.names name p.items q).take k).length ≤ p.names.length + 1 := ⟨by rw [List.length_take]; omega, by rw [List.length_take]; omega⟩
   rcases hm with ⟨rfl, rfl, hns0, hts0⟩ | ⟨Bn, Bi, hni, hbn, hbi, hOn, hOi, hts⟩
   ·
    refine Rg (Va (dx_fld (o1 := 3) rfl ty_fld_27_3_3 rfl rfl) rfl rfl (Va (dx_load rfl ty_one_24 rfl (k31.cell (k := 3) rfl)) rfl rfl (Pu rfl ?_)))
    refine Ge (dx_lit1 (r := [.string name]) rfl ty_ap_24 (by decide) (by decide) rfl rfl rfl) rfl rfl ?_
    rintro u293 W289 ⟨k290, b291, z292⟩
    have l298 := hB.size
    replace hnp := hnp.more b291 (Nat.le_refl _)
    replace hip := hip.more b291 (Nat.le_refl _)
    replace hcp := hcp.more b291 (Nat.le_refl _)
    replace hnq := hnq.more b291 (Nat.le_refl _)
    replace hiq := hiq.more b291 (Nat.le_refl _)
    replace hcq := hcq.more b291 (Nat.le_refl _)
    replace hag := hag.more b291 (Nat.le_refl _)
    replace k8 := k8.below b291
    replace k14 := k14.below b291
    replace k31 := k31.below b291
    replace hB := below_then hB b291
    replace hL := LL.more hL z292
    refine Ge (dx_apF (rs := []) (news := [eS name]) rfl ty_ap_24 rfl rfl (RdF.nil (L := []) (by decide)) (k290.rd (L := []) (by simp)) (by simp) (by simp [maxLen]) (by simp)) rfl rfl ?_
    rintro u299 W300 ⟨k301, b302, z303⟩
    have q306 := hag.2.1
    have l307 : b0 ≤ W289.heap.size := by omega
    have n311 : W13.heap.size ≠ W289.heap.size := Nat.ne_of_lt k31.lt
    have l313 := hB.size
    replace hnp := hnp.more b302 (Nat.le_refl _)
    replace hip := hip.more b302 (Nat.le_refl _)
    replace hcp := hcp.more b302 (Nat.le_refl _)
    replace hnq := hnq.more b302 (Nat.le_refl _)
    replace hiq := hiq.more b302 (Nat.le_refl _)
    replace hcq := hcq.more b302 (Nat.le_refl _)
    replace hag := hag.more b302 (Nat.le_refl _)
    replace k8 := k8.below b302
    replace k14 := k14.below b302
    replace k31 := k31.below b302
    replace hB := below_then hB b302
    replace hL := LL.more hL z303
    refine Va (dx_fld (o1 := 3) rfl ty_fld_27_3_3 rfl rfl) rfl rfl ?_
    refine WL.do (dx_store (cs' := [.int .i64 6, .int .i64 0, .string ⟨#[]⟩, u299, .slice none 0 0]) (vs := [u299]) rfl ty_size_24_1 rfl rfl (oc_one k301.one) (oC k301.one oc_nil) k31 rfl (nB rfl) rfl) rfl ?_
    rintro _ W314 ⟨k316, o315⟩
    replace k8 := k8.other o315 n26
    replace k14 := k14.other o315 n27
    replace k301 := k301.other o315 n311.symm
    clear k31
    replace hnp := hnp.only o315 (.tail _ (.tail _ (.head _)))
    replace hip := hip.only o315 (.tail _ (.tail _ (.head _)))
    replace hcp := hcp.only o315 (.tail _ (.tail _ (.head _)))
    replace hnq := hnq.only o315 (.tail _ (.tail _ (.head _)))
    replace hiq := hiq.only o315 (.tail _ (.tail _ (.head _)))
    replace hcq := hcq.only o315 (.tail _ (.tail _ (.head _)))
    replace hag := hag.only o315 (.tail _ (.tail _ (.head _)))
    replace hB := o315.below hB l28
    replace hL := LL.only hL o315
    refine Ni (hK288 (Rg (Va (dx_fld (o1 := 4) rfl ty_fld_27_4_4 rfl rfl) rfl rfl (Va (dx_load rfl ty_one_25 rfl (k316.cell (k := 4) rfl)) rfl rfl (Va (dx_loadN rfl ty_agg_27_5 rfl k8.range rfl) rfl rfl ?_)))))
    refine Ge (dx_lit1 (r := [.int .i64 q.kind, .int .i64 q.num, .string q.text, q.nv, q.iv]) rfl ty_ap_25 (by decide) (by decide) rfl rfl rfl) rfl rfl ?_
    rintro u321 W317 ⟨k318, b319, z320⟩
    have l328 := hB.size
    replace hnp := hnp.more b319 (Nat.le_refl _)
    replace hip := hip.more b319 (Nat.le_refl _)
    replace hcp := hcp.more b319 (Nat.le_refl _)
    replace hnq := hnq.more b319 (Nat.le_refl _)
    replace hiq := hiq.more b319 (Nat.le_refl _)
    replace hcq := hcq.more b319 (Nat.le_refl _)
    replace hag := hag.more b319 (Nat.le_refl _)
    replace k14 := k14.below b319
    replace k316 := k316.below b319
    replace k301 := k301.below b319
    replace hB := below_then hB b319
    replace hL := LL.more hL z320
    refine Ge (dx_apF (rs := []) (news := [encT q]) rfl ty_ap_25 rfl rfl (RdF.nil (L := []) (by decide)) (k318.rd (L := []) (by simp)) (by simp) (by simp [maxLen]) (by simp)) rfl rfl ?_
    rintro u329 W330 ⟨k331, b332, z333⟩
    have q336 := hag.2.1
    have l337 : b0 ≤ W317.heap.size := by omega
    have n341 : W13.heap.size ≠ W317.heap.size := Nat.ne_of_lt k316.lt
    have n343 : W289.heap.size ≠ W317.heap.size := Nat.ne_of_lt k301.lt
    have l345 := hB.size
    replace hnp := hnp.more b332 (Nat.le_refl _)
    replace hip := hip.more b332 (Nat.le_refl _)
    replace hcp := hcp.more b332 (Nat.le_refl _)
    replace hnq := hnq.more b332 (Nat.le_refl _)
    replace hiq := hiq.more b332 (Nat.le_refl _)
    replace hcq := hcq.more b332 (Nat.le_refl _)
    replace hag := hag.more b332 (Nat.le_refl _)
    replace k14 := k14.below b332
    replace k316 := k316.below b332
    replace k301 := k301.below b332
    replace hB := below_then hB b332
    replace hL := LL.more hL z333
    refine Va (dx_fld (o1 := 4) rfl ty_fld_27_4_4 rfl rfl) rfl rfl ?_
    refine WL.do (dx_store (cs' := [.int .i64 6, .int .i64 0, .string ⟨#[]⟩, u299, u329]) (vs := [u329]) rfl ty_size_25_1 rfl rfl (oc_one k331.one) (oC k331.one oc_nil) k316 rfl (nB rfl) rfl) rfl ?_
    rintro _ W346 ⟨k348, o347⟩
    replace k14 := k14.other o347 n27
    replace k301 := k301.other o347 n311.symm
    replace k331 := k331.other o347 n341.symm
    clear k316
    replace hnp := hnp.only o347 (.tail _ (.tail _ (.tail _ (.tail _ (.head _)))))
    replace hip := hip.only o347 (.tail _ (.tail _ (.tail _ (.tail _ (.head _)))))
    replace hcp := hcp.only o347 (.tail _ (.tail _ (.tail _ (.tail _ (.head _)))))
    replace hnq := hnq.only o347 (.tail _ (.tail _ (.tail _ (.tail _ (.head _)))))
    replace hiq := hiq.only o347 (.tail _ (.tail _ (.tail _ (.tail _ (.head _)))))
    replace hcq := hcq.only o347 (.tail _ (.tail _ (.tail _ (.tail _ (.head _)))))
    replace hag := hag.only o347 (.tail _ (.tail _ (.tail _ (.tail _ (.head _)))))
    replace hB := o347.below hB l28
    replace hL := LL.only hL o347
    refine Ni (hK282 (Sq fun K349 hK349 => ?_))
    have eputN : [name] = (putN p.names name).take (k + 1) := by rw [show [name] = (putN p.names name).take k ++ [name] from by rw [hns0]; rfl]; rw [take_add n1]
    have eputT : [q] = (putT p.names name p.items q).take (k + 1) := by rw [show [q] = (putT p.names name p.items q).take k ++ [q] from by rw [hts0]; rfl]; rw [take_add t1]
    have hts2 : RdTs (n + 1) (W289.heap.size :: W317.heap.size :: W13.heap.size :: W7.heap.size :: W2.heap.size :: w.heap.size :: L) W346 [q] := fun c hc_ => by
     simp only [List.mem_append, List.mem_singleton, or_assoc] at hc_
     have h_ := hc_
     (rw [h_]; exact (show RdT (n + 1) (W317.heap.size :: W314.heap.size :: W289.heap.size :: W36.heap.size :: W13.heap.size :: W7.heap.size :: W2.heap.size :: w.heap.size :: L) W346 q from ⟨hnq, hiq, hcq⟩).less (fun x hx => by simp only [List.mem_cons] at hx ⊢; rcases hx with h_ | h_ | h_ <;> simp [h_]))
    have hm2 : MembI (n + 1) b0 (W13.heap.size :: W7.heap.size :: W2.heap.size :: w.heap.size :: L) u299 ((putN p.names name).take (k + 1)) u329 ((putT p.names name p.items q).take (k + 1)) W346 := ⟨hb0L, .inr ⟨W289.heap.size, W317.heap.size, n343, by omega, by omega, (by rw [← eputN]; exact k301), (by rw [← eputT]; exact k331), (by rw [← eputT]; exact hts2)⟩⟩
    have hL_ := hL.less (fun x hx => (.tail _ (.tail _ (.tail _ (.tail _ hx)))))
    replace hag : AgL W29 (W13.heap.size :: W7.heap.size :: W2.heap.size :: w.heap.size :: L) (W13.heap.size :: W7.heap.size :: W2.heap.size :: w.heap.size :: L) W346 := ⟨fun _ h _ => h, hag.2⟩
    replace hnp := hnp6.agree hag.2
    replace hip := hip6.agree hag.2
    replace hnq := hnq6.agree hag.2
    replace hiq := hiq6.agree hag.2
    replace hcp : RdTs n (W13.heap.size :: W7.heap.size :: W2.heap.size :: w.heap.size :: L) W346 p.items := fun c hc_ => (hcp6 c hc_).agree hag.2
    replace hcq : RdTs n (W13.heap.size :: W7.heap.size :: W2.heap.size :: w.heap.size :: L) W346 q.items := fun c hc_ => (hcq6 c hc_).agree hag.2
    replace hL := hL_
    have hc1 : c_ = 1 := by rw [hc_]; unfold putC; rw [if_neg (fun h_ => by have := (List.getElem?_eq_some_iff.1 h_).1; omega)]
    refine Rg (Va (dx_loadN rfl ty_agg_27_5 rfl k348.range rfl) rfl rfl ?_)
    refine WL.do (dx_store (cs' := [.int .i64 6, .int .i64 0, .string ⟨#[]⟩, u299, u329]) (vs := [.int .i64 6, .int .i64 0, .string ⟨#[]⟩, u299, u329]) rfl ty_size_27_5 rfl rfl rfl (oC rfl (oC rfl (oC rfl (oC k301.one (oC k331.one oc_nil))))) k14 rfl (nB rfl) rfl) rfl ?_
    rintro _ W350 ⟨k352, o351⟩
    clear k14
    replace hm2 := hm2.only o351 (.tail _ (.head _))
    replace hB := o351.below hB l19
    refine Ni (hK349 ?_)
    exact WC.ret fun a_ ha_ => hQ (cv_ret1 rfl (.agg rfl ty_agg_27_5 k352.range rfl) (by rw [List.take_of_length_le (show (putN p.names name).length ≤ k + 1 by omega), List.take_of_length_le (show (putT p.names name p.items q).length ≤ k + 1 by omega)] at hm2; exact ⟨.mk 6 0 ⟨#[]⟩ u299 (putN p.names name) u329 (putT p.names name p.items q), rfl, (by rw [Tr.er_mk, putJ_eq, er_names, er_items, putT_map]), hm2.tree (fun x hx => (.tail _ (.tail _ (.tail _ (.tail _ hx))))) 6 0 ⟨#[]⟩⟩) hB ha_)
   ·
    have n355 : Bn ≠ W2.heap.size := by have := hb0L (W2.heap.size) (.tail _ (.tail _ (.head _))); omega
    have n357 : Bn ≠ W7.heap.size := by have := hb0L (W7.heap.size) (.tail _ (.head _)); omega
    have n358 : Bi ≠ W7.heap.size := by have := hb0L (W7.heap.size) (.tail _ (.head _)); omega
    have n359 : Bn ≠ W13.heap.size := by have := hb0L (W13.heap.size) (.head _); omega
    have n360 : Bi ≠ W13.heap.size := by have := hb0L (W13.heap.size) (.head _); omega
    have lbn : w.heap.size ≤ Bn := by omega
    have lbi : w.heap.size ≤ Bi := by omega
    replace hag := (hag.add (B := Bi) (by omega)).add (B := Bn) (by omega)
    replace hL := LL.cons (LL.cons hL hOi.lt) hOn.lt
    replace hnp := hag.rd hnp6
    replace hip := hag.rd hip6
    replace hnq := hag.rd hnq6
    replace hiq := hag.rd hiq6
    replace hcp : RdTs n (Bn :: Bi :: W13.heap.size :: W7.heap.size :: W2.heap.size :: w.heap.size :: L) W36 p.items := fun c hc_ => hag.rt (hcp6 c hc_)
    replace hcq : RdTs n (Bn :: Bi :: W13.heap.size :: W7.heap.size :: W2.heap.size :: w.heap.size :: L) W36 q.items := fun c hc_ => hag.rt (hcq6 c hc_)
    refine Rg (Va (dx_fld (o1 := 3) rfl ty_fld_27_3_3 rfl rfl) rfl rfl (Va (dx_load rfl ty_one_24 rfl (k31.cell (k := 3) rfl)) rfl rfl (Pu rfl ?_)))
    refine Ge (dx_lit1 (r := [.string name]) rfl ty_ap_24 (by decide) (by decide) rfl rfl rfl) rfl rfl ?_
    rintro u365 W361 ⟨k362, b363, z364⟩
    have l372 := hB.size
    replace hnp := hnp.more b363 (Nat.le_refl _)
    replace hip := hip.more b363 (Nat.le_refl _)
    replace hcp := hcp.more b363 (Nat.le_refl _)
    replace hnq := hnq.more b363 (Nat.le_refl _)
    replace hiq := hiq.more b363 (Nat.le_refl _)
    replace hcq := hcq.more b363 (Nat.le_refl _)
    replace hag := hag.more b363 (Nat.le_refl _)
    replace hts := hts.more b363 (Nat.le_refl _)
    replace k8 := k8.below b363
    replace k14 := k14.below b363
    replace k31 := k31.below b363
    replace hOn := hOn.below b363
    replace hOi := hOi.below b363
    replace hB := below_then hB b363
    replace hL := LL.more hL z364
    refine Ge (dx_apO' (rs := (((putN p.names name).take k).map eS)) (news := [eS name]) rfl ty_ap_24 rfl rfl hOn (k362.rd (L := []) (by simp)) (fun r hr => by rw [List.mem_singleton.1 hr]; exact (oC rfl oc_nil)) (by simp only [List.length_map, List.length_append, List.length_cons, List.length_nil]; unfold maxLen; omega) (by simp only [List.length_map, List.length_append, List.length_cons, List.length_nil]; omega)) rfl rfl ?_
    rintro u373 W374 ⟨B379, k375, g378⟩
    rw [show (((putN p.names name).take k).map eS) ++ [eS name] = ((((putN p.names name).take k) ++ [name]).map eS) from by simp only [List.map_append, List.map_cons, List.map_nil]] at k375
    have q381 := hag.2.1
    have l382 : b0 ≤ B379 := g378.le hbn (by omega)
    have n386 : W13.heap.size ≠ B379 := k31.grow_ne g378 n359.symm
    have n387 : Bi ≠ B379 := hOi.grow_ne g378 hni.symm
    have l380 := g378.le lbn hB.size
    replace hnp := hnp.grow' g378 (.tail _ (.head _))
    replace hip := hip.grow' g378 (.tail _ (.head _))
    replace hcp := hcp.grow' g378 (.tail _ (.head _))
    replace hnq := hnq.grow' g378 (.tail _ (.head _))
    replace hiq := hiq.grow' g378 (.tail _ (.head _))
    replace hcq := hcq.grow' g378 (.tail _ (.head _))
    replace hag := hag.grow' g378 (.tail _ (.head _))
    replace hts := hts.grow' g378 (.tail _ (.head _))
    replace k8 := k8.grow g378 n355.symm
    replace k14 := k14.grow g378 n357.symm
    replace k31 := k31.grow g378 n359.symm
    replace hOi := hOi.grow g378 hni.symm
    replace hB := g378.below hB lbn hB.size
    replace hL := LL.grow hL g378 k375.lt
    refine Va (dx_fld (o1 := 3) rfl ty_fld_27_3_3 rfl rfl) rfl rfl ?_
    refine WL.do (dx_store (cs' := [.int .i64 6, .int .i64 0, .string ⟨#[]⟩, u373, iv]) (vs := [u373]) rfl ty_size_24_1 rfl rfl (oc_one k375.one) (oC k375.one oc_nil) k31 rfl (nB rfl) rfl) rfl ?_
    rintro _ W389 ⟨k391, o390⟩
    replace k8 := k8.other o390 n26
    replace k14 := k14.other o390 n27
    replace hOi := hOi.other o390 n360
    replace k375 := k375.other o390 n386.symm
    clear k31
    replace hnp := hnp.only o390 (.tail _ (.tail _ (.tail _ (.tail _ (.head _)))))
    replace hip := hip.only o390 (.tail _ (.tail _ (.tail _ (.tail _ (.head _)))))
    replace hcp := hcp.only o390 (.tail _ (.tail _ (.tail _ (.tail _ (.head _)))))
    replace hnq := hnq.only o390 (.tail _ (.tail _ (.tail _ (.tail _ (.head _)))))
    replace hiq := hiq.only o390 (.tail _ (.tail _ (.tail _ (.tail _ (.head _)))))
    replace hcq := hcq.only o390 (.tail _ (.tail _ (.tail _ (.tail _ (.head _)))))
    replace hag := hag.only o390 (.tail _ (.tail _ (.tail _ (.tail _ (.head _)))))
    replace hts := hts.only o390 (.tail _ (.tail _ (.tail _ (.tail _ (.head _)))))
    replace hB := o390.below hB l28
    replace hL := LL.only hL o390
    refine Ni (hK288 (Rg (Va (dx_fld (o1 := 4) rfl ty_fld_27_4_4 rfl rfl) rfl rfl (Va (dx_load rfl ty_one_25 rfl (k391.cell (k := 4) rfl)) rfl rfl (Va (dx_loadN rfl ty_agg_27_5 rfl k8.range rfl) rfl rfl ?_)))))
    refine Ge (dx_lit1 (r := [.int .i64 q.kind, .int .i64 q.num, .string q.text, q.nv, q.iv]) rfl ty_ap_25 (by decide) (by decide) rfl rfl rfl) rfl rfl ?_
    rintro u396 W392 ⟨k393, b394, z395⟩
    have l404 := hB.size
    replace hnp := hnp.more b394 (Nat.le_refl _)
    replace hip := hip.more b394 (Nat.le_refl _)
    replace hcp := hcp.more b394 (Nat.le_refl _)
    replace hnq := hnq.more b394 (Nat.le_refl _)
    replace hiq := hiq.more b394 (Nat.le_refl _)
    replace hcq := hcq.more b394 (Nat.le_refl _)
    replace hag := hag.more b394 (Nat.le_refl _)
    replace hts := hts.more b394 (Nat.le_refl _)
    replace k14 := k14.below b394
    replace k391 := k391.below b394
    replace hOi := hOi.below b394
    replace k375 := k375.below b394
    replace hB := below_then hB b394
    replace hL := LL.more hL z395
    refine Ge (dx_apO' (rs := (((putT p.names name p.items q).take k).map encT)) (news := [encT q]) rfl ty_ap_25 rfl rfl hOi (k393.rd (L := []) (by simp)) (fun r hr => by rw [List.mem_singleton.1 hr]; exact (show RdT (n + 1) (W389.heap.size :: B379 :: W36.heap.size :: Bn :: Bi :: W13.heap.size :: W7.heap.size :: W2.heap.size :: w.heap.size :: L) W392 q from ⟨hnq, hiq, hcq⟩).oc) (by simp only [List.length_map, List.length_append, List.length_cons, List.length_nil]; unfold maxLen; omega) (by simp only [List.length_map, List.length_append, List.length_cons, List.length_nil]; omega)) rfl rfl ?_
    rintro u405 W406 ⟨B411, k407, g410⟩
    rw [show (((putT p.names name p.items q).take k).map encT) ++ [encT q] = ((((putT p.names name p.items q).take k) ++ [q]).map encT) from by simp only [List.map_append, List.map_cons, List.map_nil]] at k407
    have q413 := hag.2.1
    have l414 : b0 ≤ B411 := g410.le hbi (by omega)
    have n418 : W13.heap.size ≠ B411 := k391.grow_ne g410 n360.symm
    have n420 : B379 ≠ B411 := k375.grow_ne g410 n387.symm
    have l412 := g410.le lbi hB.size
    replace hnp := hnp.grow' g410 (.tail _ (.tail _ (.tail _ (.tail _ (.head _)))))
    replace hip := hip.grow' g410 (.tail _ (.tail _ (.tail _ (.tail _ (.head _)))))
    replace hcp := hcp.grow' g410 (.tail _ (.tail _ (.tail _ (.tail _ (.head _)))))
    replace hnq := hnq.grow' g410 (.tail _ (.tail _ (.tail _ (.tail _ (.head _)))))
    replace hiq := hiq.grow' g410 (.tail _ (.tail _ (.tail _ (.tail _ (.head _)))))
    replace hcq := hcq.grow' g410 (.tail _ (.tail _ (.tail _ (.tail _ (.head _)))))
    replace hag := hag.grow' g410 (.tail _ (.tail _ (.tail _ (.tail _ (.head _)))))
    replace hts := hts.grow' g410 (.tail _ (.tail _ (.tail _ (.tail _ (.head _)))))
    replace k14 := k14.grow g410 n358.symm
    replace k391 := k391.grow g410 n360.symm
    replace k375 := k375.grow g410 n387.symm
    replace hB := g410.below hB lbi hB.size
    replace hL := LL.grow hL g410 k407.lt
    refine Va (dx_fld (o1 := 4) rfl ty_fld_27_4_4 rfl rfl) rfl rfl ?_
    refine WL.do (dx_store (cs' := [.int .i64 6, .int .i64 0, .string ⟨#[]⟩, u373, u405]) (vs := [u405]) rfl ty_size_25_1 rfl rfl (oc_one k407.one) (oC k407.one oc_nil) k391 rfl (nB rfl) rfl) rfl ?_
    rintro _ W422 ⟨k424, o423⟩
    replace k14 := k14.other o423 n27
    replace k375 := k375.other o423 n386.symm
    replace k407 := k407.other o423 n418.symm
    clear k391
    replace hnp := hnp.only o423 (.tail _ (.tail _ (.tail _ (.tail _ (.tail _ (.tail _ (.head _)))))))
    replace hip := hip.only o423 (.tail _ (.tail _ (.tail _ (.tail _ (.tail _ (.tail _ (.head _)))))))
    replace hcp := hcp.only o423 (.tail _ (.tail _ (.tail _ (.tail _ (.tail _ (.tail _ (.head _)))))))
    replace hnq := hnq.only o423 (.tail _ (.tail _ (.tail _ (.tail _ (.tail _ (.tail _ (.head _)))))))
    replace hiq := hiq.only o423 (.tail _ (.tail _ (.tail _ (.tail _ (.tail _ (.tail _ (.head _)))))))
    replace hcq := hcq.only o423 (.tail _ (.tail _ (.tail _ (.tail _ (.tail _ (.tail _ (.head _)))))))
    replace hag := hag.only o423 (.tail _ (.tail _ (.tail _ (.tail _ (.tail _ (.tail _ (.head _)))))))
    replace hts := hts.only o423 (.tail _ (.tail _ (.tail _ (.tail _ (.tail _ (.tail _ (.head _)))))))
    replace hB := o423.below hB l28
    replace hL := LL.only hL o423
    refine Ni (hK282 (Sq fun K425 hK425 => ?_))
    have eputN : (((putN p.names name).take k) ++ [name]) = (putN p.names name).take (k + 1) := by rw [take_add n1]
    have eputT : (((putT p.names name p.items q).take k) ++ [q]) = (putT p.names name p.items q).take (k + 1) := by rw [take_add t1]
    have hts2 : RdTs (n + 1) (B379 :: B411 :: W13.heap.size :: W7.heap.size :: W2.heap.size :: w.heap.size :: L) W422 (((putT p.names name p.items q).take k) ++ [q]) := fun c hc_ => by
     simp only [List.mem_append, List.mem_singleton, or_assoc] at hc_
     rcases hc_ with h_ | h_
     · exact (hts c h_).less (fun x hx => by simp only [List.mem_cons] at hx ⊢; rcases hx with h_ | h_ | h_ <;> simp [h_])
     · (rw [h_]; exact (show RdT (n + 1) (B411 :: W389.heap.size :: B379 :: W36.heap.size :: Bn :: Bi :: W13.heap.size :: W7.heap.size :: W2.heap.size :: w.heap.size :: L) W422 q from ⟨hnq, hiq, hcq⟩).less (fun x hx => by simp only [List.mem_cons] at hx ⊢; rcases hx with h_ | h_ | h_ <;> simp [h_]))
    have hm2 : MembI (n + 1) b0 (W13.heap.size :: W7.heap.size :: W2.heap.size :: w.heap.size :: L) u373 ((putN p.names name).take (k + 1)) u405 ((putT p.names name p.items q).take (k + 1)) W422 := ⟨hb0L, .inr ⟨B379, B411, n420, by omega, by omega, (by rw [← eputN]; exact k375), (by rw [← eputT]; exact k407), (by rw [← eputT]; exact hts2)⟩⟩
    have hL_ := hL.less (fun x hx => (.tail _ (.tail _ (.tail _ (.tail _ (.tail _ (.tail _ hx)))))))
    replace hag : AgL W29 (W13.heap.size :: W7.heap.size :: W2.heap.size :: w.heap.size :: L) (W13.heap.size :: W7.heap.size :: W2.heap.size :: w.heap.size :: L) W422 := ⟨fun _ h _ => h, hag.2⟩
    replace hnp := hnp6.agree hag.2
    replace hip := hip6.agree hag.2
    replace hnq := hnq6.agree hag.2
    replace hiq := hiq6.agree hag.2
    replace hcp : RdTs n (W13.heap.size :: W7.heap.size :: W2.heap.size :: w.heap.size :: L) W422 p.items := fun c hc_ => (hcp6 c hc_).agree hag.2
    replace hcq : RdTs n (W13.heap.size :: W7.heap.size :: W2.heap.size :: w.heap.size :: L) W422 q.items := fun c hc_ => (hcq6 c hc_).agree hag.2
    replace hL := hL_
    have hc1 : c_ = 1 := by rw [hc_]; unfold putC; rw [if_neg (fun h_ => by have := (List.getElem?_eq_some_iff.1 h_).1; omega)]
    refine Rg (Va (dx_loadN rfl ty_agg_27_5 rfl k424.range rfl) rfl rfl ?_)
    refine WL.do (dx_store (cs' := [.int .i64 6, .int .i64 0, .string ⟨#[]⟩, u373, u405]) (vs := [.int .i64 6, .int .i64 0, .string ⟨#[]⟩, u373, u405]) rfl ty_size_27_5 rfl rfl rfl (oC rfl (oC rfl (oC rfl (oC k375.one (oC k407.one oc_nil))))) k14 rfl (nB rfl) rfl) rfl ?_
    rintro _ W426 ⟨k428, o427⟩
    clear k14
    replace hm2 := hm2.only o427 (.tail _ (.head _))
    replace hB := o427.below hB l19
    refine Ni (hK425 ?_)
    exact WC.ret fun a_ ha_ => hQ (cv_ret1 rfl (.agg rfl ty_agg_27_5 k428.range rfl) (by rw [List.take_of_length_le (show (putN p.names name).length ≤ k + 1 by omega), List.take_of_length_le (show (putT p.names name p.items q).length ≤ k + 1 by omega)] at hm2; exact ⟨.mk 6 0 ⟨#[]⟩ u373 (putN p.names name) u405 (putT p.names name p.items q), rfl, (by rw [Tr.er_mk, putJ_eq, er_names, er_items, putT_map]), hm2.tree (fun x hx => (.tail _ (.tail _ (.tail _ (.tail _ hx))))) 6 0 ⟨#[]⟩⟩) hB ha_)

def numB (s : ByteArray) (k : Nat) : Bool := decide (k < s.size ∧ (atS s k = 45 ∨ (48 ≤ atS s k ∧ atS s k ≤ 57)))
theorem begin_sz {s wd : ByteArray} {k m : Nat} (h : beginS s wd k = true) (e : wd.size = m) : k + m ≤ s.size := by
 subst e
 unfold beginS at h
 rw [Bool.and_eq_true, decide_eq_true_eq] at h
 exact h.1
theorem begin_t {s : ByteArray} {k : Nat} {c : Int} {wd : ByteArray} (hc : 0 ≤ c ∧ c ≤ 255) (hw : wd = strOfNums [c]) (h : beginS s wd k = true) : takeS s k c = true := (begin_one hc hw).symm.trans h
theorem begin_f {s : ByteArray} {k : Nat} {c : Int} {wd : ByteArray} (hc : 0 ≤ c ∧ c ≤ 255) (hw : wd = strOfNums [c]) (h : beginS s wd k = false) : takeS s k c = false := (begin_one hc hw).symm.trans h
section
variable {s wd : ByteArray} {dp k : Nat} {rl ro : Except Int (Js × Nat)}
theorem begin_c {c : Int} (hk : k ≤ s.size) (h : beginS s wd k = true) (h0 : 0 < wd.size) (hc : atS wd 0 = c) : k < s.size ∧ atS s k = c := by
 have h2 := (begin_word hk).symm.trans h
 have := take_t (List.all_eq_true.1 h2 0 (List.mem_range.2 h0))
 rw [Nat.add_zero] at this
 exact ⟨this.1, this.2.trans hc⟩
theorem valB_w0 (hk : k ≤ s.size) (h : beginS s ⟨#[110, 117, 108, 108]⟩ k = true) : valB s dp rl ro k = .ok ((leafT 0 0 ⟨#[]⟩).er, k + 4) := by
 obtain ⟨a, b⟩ := begin_c (c := 110) hk h (by decide) rfl
 unfold valB; rw [if_pos a, if_pos b]; exact wordR_t ((begin_word hk).symm.trans h) rfl
theorem valB_w1 (hk : k ≤ s.size) (h : beginS s ⟨#[116, 114, 117, 101]⟩ k = true) : valB s dp rl ro k = .ok ((leafT 1 0 ⟨#[]⟩).er, k + 4) := by
 obtain ⟨a, b⟩ := begin_c (c := 116) hk h (by decide) rfl
 unfold valB; rw [if_pos a, if_neg (by omega), if_pos b]; exact wordR_t ((begin_word hk).symm.trans h) rfl
theorem valB_w2 (hk : k ≤ s.size) (h : beginS s ⟨#[102, 97, 108, 115, 101]⟩ k = true) : valB s dp rl ro k = .ok ((leafT 2 0 ⟨#[]⟩).er, k + 5) := by
 obtain ⟨a, b⟩ := begin_c (c := 102) hk h (by decide) rfl
 unfold valB; rw [if_pos a, if_neg (by omega), if_neg (by omega), if_pos b]; exact wordR_t ((begin_word hk).symm.trans h) rfl
theorem valB_q (h : takeS s k 34 = true) : valB s dp rl ro k = quoR s k := by
 obtain ⟨a, b⟩ := take_t h
 unfold valB; rw [if_pos a, if_neg (by omega), if_neg (by omega), if_neg (by omega), if_neg (by omega), if_pos b]
theorem valB_n (h : numB s k = true) : valB s dp rl ro k = numR s k := by
 obtain ⟨a, b⟩ := of_decide_eq_true h
 unfold valB; rw [if_pos a, if_neg (by omega), if_neg (by omega), if_neg (by omega), if_pos b]
theorem valB_l (h : takeS s k 91 = true) : valB s dp rl ro k = nestS dp rl := by
 obtain ⟨a, b⟩ := take_t h
 unfold valB; rw [if_pos a, if_neg (by omega), if_neg (by omega), if_neg (by omega), if_neg (by omega), if_neg (by omega), if_pos b]
theorem valB_o (h : takeS s k 123 = true) : valB s dp rl ro k = nestS dp ro := by
 obtain ⟨a, b⟩ := take_t h
 unfold valB; rw [if_pos a, if_neg (by omega), if_neg (by omega), if_neg (by omega), if_neg (by omega), if_neg (by omega), if_neg (by omega), if_pos b]
theorem valB_0 (hk : k ≤ s.size) (b0 : beginS s ⟨#[110, 117, 108, 108]⟩ k = false) (b1 : beginS s ⟨#[116, 114, 117, 101]⟩ k = false) (b2 : beginS s ⟨#[102, 97, 108, 115, 101]⟩ k = false) (bq : takeS s k 34 = false) (bn : numB s k = false) (bl : takeS s k 91 = false) (bo : takeS s k 123 = false) : valB s dp rl ro k = .error 2 := by
  unfold valB
  split
  · rename_i hlt
    have f := fun {c : Int} (h : takeS s k c = false) => take_f h hlt
    split
    · exact wordR_f ((begin_word hk).symm.trans b0)
    · split
      · exact wordR_f ((begin_word hk).symm.trans b1)
      · split
        · exact wordR_f ((begin_word hk).symm.trans b2)
        · rw [if_neg (fun h_ => of_decide_eq_false bn ⟨hlt, h_⟩), if_neg (f bq), if_neg (f bl), if_neg (f bo)]
  · rfl
theorem nest_12 (h : 12 ≤ dp) (h2 : dp ≤ 12) : nestS dp rl = .error 4 := by unfold nestS; rw [if_pos (by omega)]
theorem nest_lt (h : dp < 12) : nestS dp rl = rl := by unfold nestS; rw [if_neg (by omega)]
end
section
variable {s : ByteArray} {vs : Nat → Except Int (Js × Nat)} {k k' : Nat} {e : Int} {ts : List Js} {st : StO}
theorem listS_x (h : memS s (oneL vs) 93 k [] = .error e) : listS s vs k = .error e := by unfold listS; rw [h]
theorem listS_k (h : memS s (oneL vs) 93 k [] = .ok (ts, k')) : listS s vs k = .ok (.mk 5 0 ⟨#[]⟩ [] ts, k') := by unfold listS; rw [h]
theorem objS_x (h : memS s (pairS s vs) 125 k ([], []) = .error e) : objS s vs k = .error e := by unfold objS; rw [h]
theorem objS_k (h : memS s (pairS s vs) 125 k ([], []) = .ok (st, k')) : objS s vs k = .ok (.mk 6 0 ⟨#[]⟩ st.1 st.2, k') := by unfold objS; rw [h]
theorem oneL_x (h : vs k = .error e) : oneL vs k ts = .error e := by unfold oneL; rw [h]
theorem oneL_k {t : Js} (h : vs k = .ok (t, k')) : oneL vs k ts = .ok (ts ++ [t], k') := by unfold oneL; rw [h]
end
theorem take_d {s : ByteArray} {k : Nat} {c : Int} (h : k < s.size) : decide (atS s k = c) = takeS s k c := by unfold takeS; rw [decide_eq_true h, Bool.true_and]
theorem take_n {s : ByteArray} {k : Nat} {c : Int} (h : ¬ k < s.size) : false = takeS s k c := by unfold takeS; rw [decide_eq_false h]; rfl
def DeepJ : Nat → Js → Prop
 | 0, _ => False
 | n + 1, j => ∀ x ∈ j.items, DeepJ n x
theorem rd_deepJ : ∀ {n : Nat} {L : List Nat} {w : World} {t : Tr}, RdT n L w t → DeepJ n t.er
 | 0, _, _, _, h => h
 | n + 1, _, _, _, h => fun x hx => by
  rw [er_items] at hx
  obtain ⟨c, hc, rfl⟩ := List.mem_map.1 hx
  exact rd_deepJ (h.2.2 c hc)
theorem rd_deep : ∀ {n m : Nat} {L : List Nat} {w : World} {t : Tr}, RdT m L w t → DeepJ n t.er → RdT n L w t
 | 0, _, _, _, _, _, h => h.elim
 | n + 1, 0, _, _, _, h, _ => h.elim
 | n + 1, m + 1, _, _, _, h, hd => ⟨h.1, h.2.1, fun c hc => rd_deep (h.2.2 c hc) (hd c.er (by rw [er_items]; exact List.mem_map.2 ⟨c, hc, rfl⟩))⟩
abbrev tNil (k : Int) : Tr := .mk k 0 ⟨#[]⟩ (.slice none 0 0) [] (.slice none 0 0) []
theorem tNil_er (k : Int) : (tNil k).er = .mk k 0 ⟨#[]⟩ [] [] := by rw [Tr.er_mk]; rfl
theorem tNil_rd (k : Int) (m : Nat) (L : List Nat) (w : World) : RdT (m + 1) L w (tNil k) := ⟨RdF.nil (by decide), RdF.nil (by decide), fun c hc => by cases hc⟩
def ObT (t : Tr) : Prop := t.er = .mk 6 0 ⟨#[]⟩ t.names (t.items.map Tr.er) ∧ Rises t.names ∧ t.names.length = t.items.length
theorem obT_nil : ObT (tNil 6) := ⟨tNil_er 6, List.Pairwise.nil, rfl⟩
theorem ObT.kind {t : Tr} (h : ObT t) : t.kind = 6 := by rw [← er_kind, h.1]; rfl
theorem ObT.get_t {t : Tr} (h : ObT t) {nm : ByteArray} (hg : (getT t nm).2 = true) : t.names[lbT nm t.names]? = some nm := by
  refine (mem_lb h.2.1).1 ?_
  rcases Classical.em (nm ∈ t.names) with hm | hm
  · exact hm
  · have e := getT_er t nm
    rw [getJ_none (by rw [er_names]; exact hm)] at e
    simp only [Prod.mk.injEq] at e
    rw [hg] at e
    cases e.2
theorem ObT.get_f {t : Tr} (h : ObT t) {nm : ByteArray} (hg : (getT t nm).2 = false) : ¬ t.names[lbT nm t.names]? = some nm := fun hn => by
 have hlt := (List.getElem?_eq_some_iff.1 hn).1
 have e := getT_er t nm
 rw [getJ_some (j := t.er) (by rw [er_kind]; exact h.kind) (by rw [er_names]; exact h.2.1) (by rw [er_names]; exact hn) (by rw [er_items]; exact List.getElem?_eq_getElem (by rw [List.length_map, ← h.2.2]; exact hlt))] at e
 simp only [Prod.mk.injEq] at e
 rw [hg] at e
 cases e.2
theorem ObT.put {t x u : Tr} (h : ObT t) {nm : ByteArray} (hn : ¬ t.names[lbT nm t.names]? = some nm) (hu : u.er = putJ t.er nm x.er) : ObT u ∧ u.names = insA (lbT nm t.names) nm t.names ∧ u.items.map Tr.er = insA (lbT nm t.names) x.er (t.items.map Tr.er) ∧ u.names.length = t.names.length + 1 := by
  have hle := lbT_le nm t.names
  rw [h.1, putJ_eq] at hu
  have e1 : u.names = insA (lbT nm t.names) nm t.names := by
    rw [← er_names, hu]
    show putN t.names nm = _
    unfold putN; rw [if_neg hn]
  have e2 : u.items.map Tr.er = insA (lbT nm t.names) x.er (t.items.map Tr.er) := by
    rw [← er_items, hu]
    show putT t.names nm (t.items.map Tr.er) x.er = _
    unfold putT; rw [if_neg hn]
  have l1 : u.names.length = t.names.length + 1 := by rw [e1, insA_len hle]
  refine ⟨⟨?_, by rw [e1]; exact rises_ins h.2.1 hn, ?_⟩, e1, e2, l1⟩
  · rw [hu, e1, e2]
    show Js.mk 6 0 ⟨#[]⟩ (putN t.names nm) (putT t.names nm (t.items.map Tr.er) x.er) = _
    unfold putN putT; rw [if_neg hn, if_neg hn]
  · have := congrArg List.length e2
    rw [List.length_map, insA_len (by rw [List.length_map, ← h.2.2]; exact hle), List.length_map] at this
    rw [l1, this, h.2.2]
theorem ObT.put_deep {t x u : Tr} (h : ObT t) {nm : ByteArray} {n m : Nat} {L : List Nat} {w : World} (hn : ¬ t.names[lbT nm t.names]? = some nm) (hu : u.er = putJ t.er nm x.er) (ht : RdT (n + 1) L w t) (hx : RdT n L w x) (hr : RdT m L w u) : RdT (n + 1) L w u := by
  refine rd_deep hr fun y hy => ?_
  rw [er_items, (h.put hn hu).2.2.1] at hy
  rcases mem_insA.1 hy with rfl | hy
  · exact rd_deepJ hx
  · refine rd_deepJ ht y ?_
    rw [er_items]; exact hy
abbrev RefAt (n : Nat) (vs : Nat → Except Int (Js × Nat)) (s : ByteArray) (dp : Nat) : Prop := ∀ (ka : Nat) (w : World) (L : List Nat), LL L w → ka ≤ s.size → CV Tryz.prog 20 [.string s, .int .i64 (ka : Int), .int .i64 (dp : Int)] w fun v W => (∃ (t : Tr) (k' : Nat), v = .tuple #[.agg #[.int .i64 t.kind, .int .i64 t.num, .string t.text, t.nv, t.iv], .int .i64 (k' : Int), .int .i64 0] ∧ vs (blankS s ka) = .ok (t.er, k') ∧ RdT n L W t ∧ blankS s ka < k' ∧ k' ≤ s.size) ∨ (∃ e, v = .tuple #[.agg #[.int .i64 0, .int .i64 0, .string ⟨#[]⟩, .slice none 0 0, .slice none 0 0], .int .i64 0, .int .i64 e] ∧ e ≠ 0 ∧ vs (blankS s ka) = .error e)
theorem refBlank_e (s : ByteArray) (ka : Nat) (w : World) (L : List Nat) (hL : LL L w) (hs : s.size ≤ 1000000) (hk : ka ≤ s.size) : CV Tryz.prog 21 [.string s, .int .i64 (ka : Int)] w fun v W => ∃ k1 : Nat, v = .int .i64 (k1 : Int) ∧ k1 = blankS s ka ∧ ka ≤ k1 ∧ k1 ≤ s.size :=
 (refBlank_v s ka w L hL hs hk).mono fun v W _ h => ⟨_, h, rfl, (blankS_le hk).1, (blankS_le hk).2⟩
theorem refGet_e (n : Nat) (t : Tr) (nm : ByteArray) (w : World) (L : List Nat) (hL : LL L w) (h : RdT (n + 1) L w t) : CV Tryz.prog 43 [.agg #[.int .i64 t.kind, .int .i64 t.num, .string t.text, t.nv, t.iv], .string nm] w fun v W => ∃ a, v = .tuple #[.agg #[.int .i64 a.kind, .int .i64 a.num, .string a.text, a.nv, a.iv], .bool (getT t nm).2] ∧ RdT (n + 1) L W a :=
 (rGet_v n t nm w L hL h).mono fun v W hb e => ⟨(getT t nm).1, e, (getT_rd h nm).below hb⟩
theorem numT_ok {s : ByteArray} {m : Bool} {k k' : Nat} {n : Int} (hk : k ≤ s.size) (h : numT s m k = .ok (n, k')) : k < k' ∧ k' ≤ s.size := by
  have hd := digS_le hk
  unfold numT at h
  split at h
  · split at h
    · cases h
    · cases h; omega
  · split at h
    · cases h
    · split at h
      · cases h
      · cases h; omega
theorem numT_err {s : ByteArray} {m : Bool} {k : Nat} {e : Int} (h : numT s m k = .error e) : e ≠ 0 := by
  unfold numT at h
  split at h
  · split at h
    · cases h; decide
    · cases h
  · split at h
    · cases h; decide
    · split at h
      · cases h; decide
      · cases h
theorem refNumber_e (s : ByteArray) (ka : Nat) (w : World) (L : List Nat) (hL : LL L w) (hs : s.size ≤ 1000000) (hk : ka < s.size) : CV Tryz.prog 42 [.string s, .int .i64 (ka : Int)] w fun v W => (∃ (n : Int) (k' : Nat), v = .tuple #[.int .i64 n, .int .i64 (k' : Int), .int .i64 0] ∧ numS s ka = .ok (n, k') ∧ ka < k' ∧ k' ≤ s.size) ∨ (∃ e, v = .tuple #[.int .i64 0, .int .i64 0, .int .i64 e] ∧ e ≠ 0 ∧ numS s ka = .error e) :=
 (refNumber_v s ka w L hL hs (by omega) hk).mono fun v W _ h => by
  subst h
  cases hn : numS s ka with
  | error e =>
   refine .inr ⟨e, rfl, ?_, rfl⟩
   unfold numS at hn
   split at hn <;> exact numT_err hn
  | ok p =>
   obtain ⟨n, k'⟩ := p
   refine .inl ⟨n, k', rfl, rfl, ?_⟩
   unfold numS at hn
   split at hn
   · have := numT_ok (by omega) hn; omega
   · exact numT_ok (by omega) hn
theorem pairS_no {s : ByteArray} {vs : Nat → Except Int (Js × Nat)} {k : Nat} {st : StO} (h : takeS s k 34 = true → quoS s k = none) : pairS s vs k st = .error 2 := by
 cases ht : takeS s k 34 with
 | false => exact pairS_0 ht
 | true => exact pairS_q ht (h ht)
set_option maxHeartbeats 1000000 in
theorem refQuoteT_v (s : ByteArray) (ka : Nat) (w : World) (L : List Nat) (hL : LL L w)   (hs : s.size ≤ 1000000) (hk : ka ≤ s.size) (he : EscAt s) : CV Tryz.prog 41 [.string s, .int .i64 (ka : Int)] w fun v W => (∃ l k', v = .tuple #[.string (strOfNums l), .int .i64 ((k' : Nat) : Int)] ∧ takeS s ka 34 = true ∧ quoS s ka = some (l, k') ∧ Bytes l ∧ l.length ≤ k' ∧ ka < k' ∧ k' ≤ s.size) ∨ (v = .tuple #[.string ⟨#[]⟩, .int .i64 (-1)] ∧ (takeS s ka 34 = true → quoS s ka = none)) := by
 refine cv_enter (N := 59) (f := [(0, .string s), (1, .int .i64 (ka : Int))]) Tryz.func41 rfl rfl rfl rfl fun Q hQ hE => ?_
 have hB := Below.refl w.heap.size w
 refine Sq fun K1 hK1 => (Rg (Pu rfl (Pu rfl (Ni (hK1 (Sq fun K2 hK2 => (Sq fun K3 hK3 => ?_)))))))
 refine Rg (Pu rfl (Pu rfl ?_))
 refine Ge (dx_cv rfl Tryz.func40 rfl rfl rfl (refBegins_v s ({ data := #[34] }) ka w _ hL hs (by omega) (by decide))) rfl rfl ?_
 rintro _ W5 ⟨rfl, b4⟩
 replace hB := below_then hB b4
 replace hL := LL.below hL b4
 refine Va (dx_not rfl rfl) rfl rfl (Ni (hK3 ?_))
 refine WC.cond rfl (fun c6 => ?_) (fun c6 => ?_)
 ·
  replace c6 := bnot_t c6
  refine Sq fun K7 hK7 => (Rg (Pu rfl (Pu rfl (Ni (hK7 ?_)))))
  exact WC.ret fun a_ ha_ => hQ (cv_ret2 rfl (.tmp rfl) (.tmp rfl) (.inr ⟨rfl, fun hq_ => by first | (exact absurd (((begin_one (s := s) (k := ka) (c := 34) (wd := ⟨#[34]⟩) (by decide) rfl).trans hq_).symm.trans (show beginS s ⟨#[34]⟩ ka = false by assumption)) (by decide)) | exact hv.trans (qN_lo (by omega) rfl (by omega)) | exact hv.trans (qN_e0 (by omega) rfl (by omega) (by omega) (by omega) rfl (by assumption)) | (obtain ⟨n_, hn1, hv⟩ := hv; obtain ⟨n, rfl⟩ : ∃ m, n_ = m + 1 := ⟨n_ - 1, by omega⟩; exact hv.trans (qN_end (by omega)))⟩) hB ha_)
 ·
  replace c6 := bnot_f c6
  refine WC.skip (hK2 (Sq fun K8 hK8 => ?_))
  have hq : takeS s ka 34 = true := (begin_one (by decide) rfl).symm.trans (by assumption)
  have hql := (take_t hq).1
  have hz0 : (⟨#[]⟩ : ByteArray) = strOfNums [] := rfl
  refine Rg (Pu rfl (Ni (hK8 (Sq fun K9 hK9 => (Rg (Pu rfl (Va (dx_add (r := ((ka + 1 : Nat) : Int)) rfl rfl rfl (by rw [wrap64_id (by omega)]; omega)) rfl rfl ?_)))))))
  refine Pu rfl (Ni (hK9 (Sq fun K10 hK10 => (WC.block ?_))))
  refine WC.loop2 (fun (kb : Nat) (out : List Int) => [(0, .string s), (1, .int .i64 (kb : Int)), (6, .string (strOfNums out))]) (fun (kb : Nat) (out : List Int) W => kb ≤ s.size ∧ ka < kb ∧ Bytes out ∧ out.length ≤ kb ∧ (∃ n, s.size - kb < n ∧ quoS s ka = qN s n kb out) ∧ Below w.heap.size w W ∧ LL (L) W) (fun (kb : Nat) (out : List Int) => s.size - kb) (ka + 1) [] (by repeat first | exact trivial | refine aR ?_ | refine aI (by omega) ?_) ⟨(by omega), (by omega), (fun x hx => by cases hx), (Nat.zero_le _), ⟨s.size + 1, by omega, rfl⟩, hB, hL⟩ ?_
  clear hB hL
  rintro K11 kb out W12 ⟨hkb, hkk, hB8, hol, hv, hB, hL⟩ hK11
  refine Sq fun K13 hK13 => (Sq fun K14 hK14 => (Rg (Pu rfl (Pu rfl (Va (dx_lenT rfl Tryz.underlying9 rfl) rfl rfl (Va (dx_lss rfl rfl rfl) rfl rfl (Ni ?_)))))))
  refine hK14 ?_
  refine WC.cond rfl (fun c15 => ?_) (fun c15 => ?_)
  ·
   replace c15 := dT c15
   refine WC.skip (hK13 (WC.block (WC.block (Sq fun K16 hK16 => ?_))))
   obtain ⟨n_, hn1, hv⟩ := hv
   obtain ⟨n, rfl⟩ : ∃ m, n_ = m + 1 := ⟨n_ - 1, by omega⟩
   refine Rg (Pu rfl (Pu rfl (Va (dx_at kb rfl Tryz.underlying9 rfl rfl (by omega) (by omega)) rfl rfl (Va (dx_eql rfl rfl rfl) rfl rfl (Pu rfl (Ni (hK16 ?_)))))))
   refine WC.cond rfl (fun c17 => ?_) (fun c17 => ?_)
   ·
    replace c17 := dT c17
    refine Sq fun K18 hK18 => (Rg (Pu rfl (Pu rfl (Va (dx_add (r := ((kb + 1 : Nat) : Int)) rfl rfl rfl (by rw [wrap64_id (by omega)]; omega)) rfl rfl (Pu rfl (Pu rfl (Ni ?_)))))))
    refine hK18 ?_
    exact WC.ret fun a_ ha_ => hQ (cv_ret2 rfl (.tmp rfl) (.tmp rfl) (.inl ⟨out, kb + 1, rfl, hq, hv.trans (qN_q (by omega) rfl (by omega) (by omega) rfl), hB8, by omega, by omega, by omega⟩) hB ha_)
   ·
    replace c17 := dF c17
    refine Sq fun K19 hK19 => (Rg (Pu rfl (Pu rfl (Va (dx_at kb rfl Tryz.underlying9 rfl rfl (by omega) (by omega)) rfl rfl (Va (dx_eql rfl rfl rfl) rfl rfl (Pu rfl (Ni ?_)))))))
    refine hK19 ?_
    refine WC.cond rfl (fun c20 => ?_) (fun c20 => ?_)
    ·
     replace c20 := dT c20
     refine Sq fun K21 hK21 => (Rg (Pu rfl (Pu rfl (Va (dx_add (r := ((kb + 1 : Nat) : Int)) rfl rfl rfl (by rw [wrap64_id (by omega)]; omega)) rfl rfl ?_))))
     refine Ge (dx_cv rfl Tryz.func64 rfl rfl rfl (he (kb + 1) W12 _ hL (by omega))) rfl rfl ?_
     rintro _ W39 ⟨(⟨l30, k31, rfl, hr32, hr33, hr34, hr35⟩ | ⟨rfl, hr32⟩), g38⟩
     ·
      replace hB := below_then hB g38
      replace hL := LL.below hL g38
      refine Pu rfl (Pu rfl (Pu rfl (Pu rfl (Pu rfl (Ni (hK21 (Sq fun K41 hK41 => ?_)))))))
      refine Sq fun K42 hK42 => (Rg (Pu rfl (Va (dx_lss rfl rfl rfl) rfl rfl (Ni (hK42 ?_)))))
      refine WC.cond rfl (fun c43 => ?_) (fun c43 => ?_)
      ·
       replace c43 := dT c43
       refine Sq fun K44 hK44 => (Rg (Pu rfl (Pu rfl (Ni (hK44 ?_)))))
       exact WC.ret fun a_ ha_ => hQ (cv_ret2 rfl (.tmp rfl) (.tmp rfl) (.inr ⟨rfl, fun hq_ => by first | (exact absurd (((begin_one (s := s) (k := ka) (c := 34) (wd := ⟨#[34]⟩) (by decide) rfl).trans hq_).symm.trans (show beginS s ⟨#[34]⟩ ka = false by assumption)) (by decide)) | exact hv.trans (qN_lo (by omega) rfl (by omega)) | exact hv.trans (qN_e0 (by omega) rfl (by omega) (by omega) (by omega) rfl (by assumption)) | (obtain ⟨n_, hn1, hv⟩ := hv; obtain ⟨n, rfl⟩ : ∃ m, n_ = m + 1 := ⟨n_ - 1, by omega⟩; exact hv.trans (qN_end (by omega)))⟩) hB ha_)
      ·
       replace c43 := dF c43
       refine WC.skip (hK41 (Sq fun K45 hK45 => (Rg (Pu rfl (Pu rfl ?_)))))
       have hsz1 : (strOfNums out).size = out.length := strOfNums_size out
       have hsz2 : (strOfNums l30).size = (l30).length := strOfNums_size _
       have hln : (l30).length ≤ 1000000 := by omega
       have hcat : (strOfNums out) ++ (strOfNums l30) = strOfNums (out ++ l30) := strOf_app _ _
       refine Va (dx_addT rfl rfl rfl (by rw [hsz1, hsz2]; omega)) rfl rfl ?_
       rw [hcat]
       refine Pu rfl (Ni (hK45 (Rg (Pu rfl (Pu rfl (Ni ?_))))))
       exact hK11 k31 (out ++ l30) ⟨(by omega), (by omega), (hB8.append hr33), (by simp; omega), ⟨n, by omega, hv.trans (qN_e1 (by omega) rfl (by omega) (by omega) (by omega) rfl hr32)⟩, hB, hL⟩ (by omega) (by repeat first | exact trivial | refine aR ?_ | refine aI (by omega) ?_)
     ·
      replace hB := below_then hB g38
      refine Pu rfl (Pu rfl (Pu rfl (Pu rfl (Pu rfl (Ni (hK21 (Sq fun K46 hK46 => ?_)))))))
      refine Sq fun K47 hK47 => (Rg (Pu rfl (Va (dx_lss rfl rfl rfl) rfl rfl (Ni (hK47 (WC.condT rfl (Sq fun K48 hK48 => ?_)))))))
      refine Rg (Pu rfl (Pu rfl (Ni (hK48 ?_))))
      exact WC.ret fun a_ ha_ => hQ (cv_ret2 rfl (.tmp rfl) (.tmp rfl) (.inr ⟨rfl, fun hq_ => by first | (exact absurd (((begin_one (s := s) (k := ka) (c := 34) (wd := ⟨#[34]⟩) (by decide) rfl).trans hq_).symm.trans (show beginS s ⟨#[34]⟩ ka = false by assumption)) (by decide)) | exact hv.trans (qN_lo (by omega) rfl (by omega)) | exact hv.trans (qN_e0 (by omega) rfl (by omega) (by omega) (by omega) rfl (by assumption)) | (obtain ⟨n_, hn1, hv⟩ := hv; obtain ⟨n, rfl⟩ : ∃ m, n_ = m + 1 := ⟨n_ - 1, by omega⟩; exact hv.trans (qN_end (by omega)))⟩) hB ha_)
    ·
     replace c20 := dF c20
     refine Sq fun K49 hK49 => (Rg (Pu rfl (Pu rfl (Va (dx_at kb rfl Tryz.underlying9 rfl rfl (by omega) (by omega)) rfl rfl (Va (dx_lss rfl rfl rfl) rfl rfl (Pu rfl (Ni ?_)))))))
     refine hK49 ?_
     refine WC.cond rfl (fun c50 => ?_) (fun c50 => ?_)
     ·
      replace c50 := dT c50
      refine Sq fun K51 hK51 => (Rg (Pu rfl (Pu rfl (Ni (hK51 ?_)))))
      exact WC.ret fun a_ ha_ => hQ (cv_ret2 rfl (.tmp rfl) (.tmp rfl) (.inr ⟨rfl, fun hq_ => by first | (exact absurd (((begin_one (s := s) (k := ka) (c := 34) (wd := ⟨#[34]⟩) (by decide) rfl).trans hq_).symm.trans (show beginS s ⟨#[34]⟩ ka = false by assumption)) (by decide)) | exact hv.trans (qN_lo (by omega) rfl (by omega)) | exact hv.trans (qN_e0 (by omega) rfl (by omega) (by omega) (by omega) rfl (by assumption)) | (obtain ⟨n_, hn1, hv⟩ := hv; obtain ⟨n, rfl⟩ : ∃ m, n_ = m + 1 := ⟨n_ - 1, by omega⟩; exact hv.trans (qN_end (by omega)))⟩) hB ha_)
     ·
      replace c50 := dF c50
      refine Sq fun K52 hK52 => (Rg (Pu rfl (Pu rfl (Pu rfl (Pu rfl (Va (dx_add (r := ((kb + 1 : Nat) : Int)) rfl rfl rfl (by rw [wrap64_id (by omega)]; omega)) rfl rfl (Va (dx_slTLH kb (kb + 1) rfl Tryz.underlying9 rfl rfl rfl (by omega) (by omega) (by omega) (by omega)) rfl rfl ?_)))))))
      have hsz1 : (strOfNums out).size = out.length := strOfNums_size out
      have hsz2 : ((s).extract kb (kb + 1)).size = ([atS s kb]).length := (by rw [ext_one (by omega)]; exact strOfNums_size _)
      have hln : ([atS s kb]).length ≤ 1000000 := by show 1 ≤ 1000000; decide
      have hcat : (strOfNums out) ++ ((s).extract kb (kb + 1)) = strOfNums (out ++ [atS s kb]) := (by rw [ext_one (by omega)]; exact strOf_app _ _)
      refine Va (dx_addT rfl rfl rfl (by rw [hsz1, hsz2]; omega)) rfl rfl ?_
      rw [hcat]
      refine Pu rfl (Ni (hK52 (Rg (Pu rfl (Va (dx_add (r := ((kb + 1 : Nat) : Int)) rfl rfl rfl (by rw [wrap64_id (by omega)]; omega)) rfl rfl (Pu rfl (Ni ?_)))))))
      exact hK11 (kb + 1) (out ++ [atS s kb]) ⟨(by omega), (by omega), (hB8.append (bytes_one (atS_lo s kb))), (by simp; omega), ⟨n, by omega, hv.trans (qN_d (by omega) rfl (by omega) (by omega) (by omega) rfl)⟩, hB, hL⟩ (by omega) (by repeat first | exact trivial | refine aR ?_ | refine aI (by omega) ?_)
  ·
   replace c15 := dF c15
   refine WC.exit ?_
   refine hK10 (Sq fun K53 hK53 => (Rg (Pu rfl (Pu rfl (Ni (hK53 ?_))))))
   exact WC.ret fun a_ ha_ => hQ (cv_ret2 rfl (.tmp rfl) (.tmp rfl) (.inr ⟨rfl, fun hq_ => by first | (exact absurd (((begin_one (s := s) (k := ka) (c := 34) (wd := ⟨#[34]⟩) (by decide) rfl).trans hq_).symm.trans (show beginS s ⟨#[34]⟩ ka = false by assumption)) (by decide)) | exact hv.trans (qN_lo (by omega) rfl (by omega)) | exact hv.trans (qN_e0 (by omega) rfl (by omega) (by omega) (by omega) rfl (by assumption)) | (obtain ⟨n_, hn1, hv⟩ := hv; obtain ⟨n, rfl⟩ : ∃ m, n_ = m + 1 := ⟨n_ - 1, by omega⟩; exact hv.trans (qN_end (by omega)))⟩) hB ha_)

set_option maxHeartbeats 4000000 in
theorem refVal_v (n : Nat) (vs : Nat → Except Int (Js × Nat)) (s : ByteArray) (ka dp : Nat) (w : World) (L : List Nat) (hL : LL L w)   (hs : s.size ≤ 1000000) (hk : ka ≤ s.size) (hd : dp ≤ 12) (hc : dp < 12 → RefAt (n + 1) vs s (dp + 1)) : CV Tryz.prog 20 [.string s, .int .i64 (ka : Int), .int .i64 (dp : Int)] w fun v W => (∃ (t : Tr) (k' : Nat), v = .tuple #[.agg #[.int .i64 t.kind, .int .i64 t.num, .string t.text, t.nv, t.iv], .int .i64 (k' : Int), .int .i64 0] ∧ valB s dp (listS s vs (blankS s ka)) (objS s vs (blankS s ka)) (blankS s ka) = .ok (t.er, k') ∧ RdT (n + 2) L W t ∧ blankS s ka < k' ∧ k' ≤ s.size) ∨ (∃ e, v = .tuple #[.agg #[.int .i64 0, .int .i64 0, .string ⟨#[]⟩, .slice none 0 0, .slice none 0 0], .int .i64 0, .int .i64 e] ∧ e ≠ 0 ∧ valB s dp (listS s vs (blankS s ka)) (objS s vs (blankS s ka)) (blankS s ka) = .error e) := by
 refine cv_enter (N := 226) (f := [(0, .string s), (1, .int .i64 (ka : Int)), (2, .int .i64 (dp : Int))]) Tryz.func20 rfl rfl rfl rfl fun Q hQ hE => ?_
 have hB := Below.refl w.heap.size w
 refine Sq fun K1 hK1 => (Rg ?_)
 refine Ge (dx_alloc rfl ty_zero_27 rfl) rfl rfl ?_
 rintro _ W2 ⟨rfl, k3, b4, z5⟩
 have l6 := hB.size
 replace hB := below_then hB b4
 replace hL := LL.more hL z5
 refine Pu rfl (Pu rfl (Ni (hK1 (Sq fun K7 hK7 => (Rg (Pu rfl (Pu rfl ?_)))))))
 refine Ge (dx_cv rfl Tryz.func21 rfl rfl rfl (refBlank_e s ka W2 _ hL hs (by omega))) rfl rfl ?_
 rintro _ W9 ⟨⟨kb, rfl, hkb, hkb1, hkb2⟩, b8⟩
 replace k3 := k3.below b8
 replace hB := below_then hB b8
 replace hL := LL.below hL b8
 refine Pu rfl (Ni (hK7 (Sq fun K10 hK10 => (Rg (Va (dx_build rfl rfl (built_of_O (cs := zV) (by kernel_rfl) oc_nil)) rfl rfl ?_)))))
 refine Ge (dx_alloc rfl ty_zero_27 rfl) rfl rfl ?_
 rintro _ W11 ⟨rfl, k12, b13, z14⟩
 have n15 : w.heap.size ≠ W9.heap.size := Nat.ne_of_lt k3.lt
 have l16 := hB.size
 replace k3 := k3.below b13
 replace hB := below_then hB b13
 replace hL := LL.more hL z14
 refine WL.do (dx_store (cs' := zV) (vs := zV) rfl ty_size_27_5 rfl rfl rfl o5 k12 rfl (nB rfl) rfl) rfl ?_
 rintro _ W17 ⟨k19, o18⟩
 replace k3 := k3.other o18 n15
 clear k12
 replace hB := o18.below hB l16
 replace hL := LL.only hL o18
 refine Ni (hK10 (Sq fun K20 hK20 => (WC.block (Sq fun K21 hK21 => (Rg (Pu rfl (Pu rfl ?_)))))))
 refine Ge (dx_cv rfl Tryz.func40 rfl rfl rfl (refBegins_v s ({ data := #[110, 117, 108, 108] }) kb W17 _ hL hs (by omega) (by decide))) rfl rfl ?_
 rintro _ W23 ⟨rfl, b22⟩
 replace k3 := k3.below b22
 replace k19 := k19.below b22
 replace hB := below_then hB b22
 replace hL := LL.below hL b22
 refine Pu rfl (Ni (hK21 ?_))
 refine WC.cond rfl (fun c24 => ?_) (fun c24 => ?_)
 ·
  refine Sq fun K25 hK25 => ?_
  have hz : kb + 4 ≤ s.size := begin_sz (wd := ⟨#[110, 117, 108, 108]⟩) (by assumption) rfl
  refine Rg (Va (dx_build rfl rfl (built_of_O (cs := zV) (by kernel_rfl) (oC rfl oc_nil))) rfl rfl (Pu rfl (Va (dx_add (r := ((kb + 4 : Nat) : Int)) rfl rfl rfl (by rw [wrap64_id (by omega)]; omega)) rfl rfl ?_)))
  refine WL.do (dx_store (cs' := zV) (vs := zV) rfl ty_size_27_5 rfl rfl rfl o5 k3 rfl (nB rfl) rfl) rfl ?_
  rintro _ W26 ⟨k28, o27⟩
  clear k3
  replace hB := o27.below hB l6
  refine Pu rfl (Pu rfl (Ni (hK25 ?_)))
  exact WC.ret fun a_ ha_ => hQ (cv_ret3 rfl (.agg rfl ty_agg_27_5 k28.range rfl) (.tmp rfl) (.tmp rfl) (.inl ⟨leafT 0 0 ⟨#[]⟩, kb + 4, rfl, (by rw [← hkb]; exact valB_w0 (by omega) (by assumption)), leaf_rd _ _ _ _ _ _, by omega, by omega⟩) hB ha_)
 ·
  refine Sq fun K29 hK29 => (Rg (Pu rfl (Pu rfl ?_)))
  refine Ge (dx_cv rfl Tryz.func40 rfl rfl rfl (refBegins_v s ({ data := #[116, 114, 117, 101] }) kb W23 _ hL hs (by omega) (by decide))) rfl rfl ?_
  rintro _ W31 ⟨rfl, b30⟩
  replace k3 := k3.below b30
  replace k19 := k19.below b30
  replace hB := below_then hB b30
  replace hL := LL.below hL b30
  refine Pu rfl (Ni (hK29 ?_))
  refine WC.cond rfl (fun c32 => ?_) (fun c32 => ?_)
  ·
   refine Sq fun K33 hK33 => ?_
   have hz : kb + 4 ≤ s.size := begin_sz (wd := ⟨#[116, 114, 117, 101]⟩) (by assumption) rfl
   refine Rg (Va (dx_build rfl rfl (built_of_O (cs := [.int .i64 1, .int .i64 0, .string ⟨#[]⟩, .slice none 0 0, .slice none 0 0]) (by kernel_rfl) (oC rfl oc_nil))) rfl rfl (Pu rfl (Va (dx_add (r := ((kb + 4 : Nat) : Int)) rfl rfl rfl (by rw [wrap64_id (by omega)]; omega)) rfl rfl ?_)))
   refine WL.do (dx_store (cs' := [.int .i64 1, .int .i64 0, .string ⟨#[]⟩, .slice none 0 0, .slice none 0 0]) (vs := [.int .i64 1, .int .i64 0, .string ⟨#[]⟩, .slice none 0 0, .slice none 0 0]) rfl ty_size_27_5 rfl rfl rfl o5 k3 rfl (nB rfl) rfl) rfl ?_
   rintro _ W34 ⟨k36, o35⟩
   clear k3
   replace hB := o35.below hB l6
   refine Pu rfl (Pu rfl (Ni (hK33 ?_)))
   exact WC.ret fun a_ ha_ => hQ (cv_ret3 rfl (.agg rfl ty_agg_27_5 k36.range rfl) (.tmp rfl) (.tmp rfl) (.inl ⟨leafT 1 0 ⟨#[]⟩, kb + 4, rfl, (by rw [← hkb]; exact valB_w1 (by omega) (by assumption)), leaf_rd _ _ _ _ _ _, by omega, by omega⟩) hB ha_)
  ·
   refine Sq fun K37 hK37 => (Rg (Pu rfl (Pu rfl ?_)))
   refine Ge (dx_cv rfl Tryz.func40 rfl rfl rfl (refBegins_v s ({ data := #[102, 97, 108, 115, 101] }) kb W31 _ hL hs (by omega) (by decide))) rfl rfl ?_
   rintro _ W39 ⟨rfl, b38⟩
   replace k3 := k3.below b38
   replace k19 := k19.below b38
   replace hB := below_then hB b38
   replace hL := LL.below hL b38
   refine Pu rfl (Ni (hK37 ?_))
   refine WC.cond rfl (fun c40 => ?_) (fun c40 => ?_)
   ·
    refine Sq fun K41 hK41 => ?_
    have hz : kb + 5 ≤ s.size := begin_sz (wd := ⟨#[102, 97, 108, 115, 101]⟩) (by assumption) rfl
    refine Rg (Va (dx_build rfl rfl (built_of_O (cs := [.int .i64 2, .int .i64 0, .string ⟨#[]⟩, .slice none 0 0, .slice none 0 0]) (by kernel_rfl) (oC rfl oc_nil))) rfl rfl (Pu rfl (Va (dx_add (r := ((kb + 5 : Nat) : Int)) rfl rfl rfl (by rw [wrap64_id (by omega)]; omega)) rfl rfl ?_)))
    refine WL.do (dx_store (cs' := [.int .i64 2, .int .i64 0, .string ⟨#[]⟩, .slice none 0 0, .slice none 0 0]) (vs := [.int .i64 2, .int .i64 0, .string ⟨#[]⟩, .slice none 0 0, .slice none 0 0]) rfl ty_size_27_5 rfl rfl rfl o5 k3 rfl (nB rfl) rfl) rfl ?_
    rintro _ W42 ⟨k44, o43⟩
    clear k3
    replace hB := o43.below hB l6
    refine Pu rfl (Pu rfl (Ni (hK41 ?_)))
    exact WC.ret fun a_ ha_ => hQ (cv_ret3 rfl (.agg rfl ty_agg_27_5 k44.range rfl) (.tmp rfl) (.tmp rfl) (.inl ⟨leafT 2 0 ⟨#[]⟩, kb + 5, rfl, (by rw [← hkb]; exact valB_w2 (by omega) (by assumption)), leaf_rd _ _ _ _ _ _, by omega, by omega⟩) hB ha_)
   ·
    refine Sq fun K45 hK45 => (Rg (Pu rfl (Pu rfl ?_)))
    refine Ge (dx_cv rfl Tryz.func40 rfl rfl rfl (refBegins_v s ({ data := #[34] }) kb W39 _ hL hs (by omega) (by decide))) rfl rfl ?_
    rintro _ W47 ⟨rfl, b46⟩
    replace k3 := k3.below b46
    replace k19 := k19.below b46
    replace hB := below_then hB b46
    replace hL := LL.below hL b46
    refine Pu rfl (Ni (hK45 ?_))
    refine WC.cond rfl (fun c48 => ?_) (fun c48 => ?_)
    ·
     refine Sq fun K49 hK49 => ?_
     have htq : takeS s kb 34 = true := begin_t (by decide) rfl (by assumption)
     refine Rg (Pu rfl (Pu rfl ?_))
     refine Ge (dx_cv rfl Tryz.func41 rfl rfl rfl (refQuoteT_v s kb W47 _ hL hs (by omega) (refEsc_at hs))) rfl rfl ?_
     rintro _ W67 ⟨(⟨lq, kq, rfl, hq64, hq58, hq59, hq60, hq61, hq62⟩ | ⟨rfl, hq63⟩), g66⟩
     ·
      replace k3 := k3.below g66
      replace hB := below_then hB g66
      refine Pu rfl (Pu rfl (Pu rfl (Pu rfl (Pu rfl (Ni (hK49 (Sq fun K69 hK69 => ?_)))))))
      refine Sq fun K70 hK70 => (Rg (Pu rfl (Va (dx_lss rfl rfl rfl) rfl rfl (Ni (hK70 ?_)))))
      refine WC.cond rfl (fun c71 => ?_) (fun c71 => ?_)
      ·
       replace c71 := dT c71
       exfalso; omega
      ·
       replace c71 := dF c71
       refine WC.skip (hK69 (Sq fun K72 hK72 => (Rg (Pu rfl (Va (dx_build rfl rfl (built_of_O (cs := [.int .i64 4, .int .i64 0, .string (strOfNums lq), .slice none 0 0, .slice none 0 0]) (by kernel_rfl) (oC rfl (oC rfl oc_nil)))) rfl rfl (Pu rfl ?_))))))
       refine WL.do (dx_store (cs' := [.int .i64 4, .int .i64 0, .string (strOfNums lq), .slice none 0 0, .slice none 0 0]) (vs := [.int .i64 4, .int .i64 0, .string (strOfNums lq), .slice none 0 0, .slice none 0 0]) rfl ty_size_27_5 rfl rfl rfl o5 k3 rfl (nB rfl) rfl) rfl ?_
       rintro _ W73 ⟨k75, o74⟩
       clear k3
       replace hB := o74.below hB l6
       refine Pu rfl (Pu rfl (Ni (hK72 ?_)))
       exact WC.ret fun a_ ha_ => hQ (cv_ret3 rfl (.agg rfl ty_agg_27_5 k75.range rfl) (.tmp rfl) (.tmp rfl) (.inl ⟨leafT 4 0 (strOfNums lq), kq, rfl, (by rw [← hkb]; exact (valB_q htq).trans (quoR_t hq58)), leaf_rd _ _ _ _ _ _, by omega, by omega⟩) hB ha_)
     ·
      replace k3 := k3.below g66
      replace k19 := k19.below g66
      replace hB := below_then hB g66
      refine Pu rfl (Pu rfl (Pu rfl (Pu rfl (Pu rfl (Ni (hK49 (Sq fun K76 hK76 => ?_)))))))
      refine Sq fun K77 hK77 => (Rg (Pu rfl (Va (dx_lss rfl rfl rfl) rfl rfl (Ni (hK77 (WC.condT rfl (Sq fun K78 hK78 => ?_)))))))
      refine Rg (Va (dx_loadN rfl ty_agg_27_5 rfl k19.range rfl) rfl rfl ?_)
      refine WL.do (dx_store (cs' := zV) (vs := zV) rfl ty_size_27_5 rfl rfl rfl o5 k3 rfl (nB rfl) rfl) rfl ?_
      rintro _ W79 ⟨k81, o80⟩
      clear k3
      replace hB := o80.below hB l6
      refine Pu rfl (Pu rfl (Ni (hK78 ?_)))
      exact WC.ret fun a_ ha_ => hQ (cv_ret3 rfl (.agg rfl ty_agg_27_5 k81.range rfl) (.tmp rfl) (.tmp rfl) (.inr ⟨2, rfl, by decide, (by rw [← hkb]; exact (valB_q htq).trans (quoR_f (hq63 htq)))⟩) hB ha_)
    ·
     refine Sq fun K82 hK82 => ?_
     have hJ14 : ∀ (b_ : Bool) (f_ : Fl), b_ = numB s kb → Sub [(0, .string s), (1, .int .i64 (kb : Int)), (2, .int .i64 (dp : Int)), (6, .pointer (some ⟨w.heap.size, 0, none⟩)), (7, .int .i64 0), (8, .int .i64 0), (9, .pointer (some ⟨W9.heap.size, 0, none⟩)), (66, .bool b_)] f_ → ∀ a, Fr 226 a f_ → K82 a W47 := by
      intro b_ f_ hb_14 hs_
      refine hK82 (WC.sub hs_ ?_)
      refine WC.cond rfl (fun c83 => ?_) (fun c83 => ?_)
      ·
       refine Sq fun K84 hK84 => ?_
       obtain ⟨hlt, hnu⟩ := of_decide_eq_true (hb_14.symm.trans (by assumption) : numB s kb = true)
       refine Rg (Pu rfl (Pu rfl ?_))
       refine Ge (dx_cv rfl Tryz.func42 rfl rfl rfl (refNumber_e s kb W47 _ hL hs hlt)) rfl rfl ?_
       rintro _ W98 ⟨(⟨nn, kn, rfl, hn91, hn92, hn93⟩ | ⟨en, rfl, hn94, hn95⟩), g97⟩
       ·
        replace k3 := k3.below g97
        replace hB := below_then hB g97
        refine Pu rfl (Pu rfl (Pu rfl (Pu rfl (Pu rfl (Pu rfl (Pu rfl (Ni ?_)))))))
        refine hK84 (Sq fun K100 hK100 => (Sq fun K101 hK101 => (Rg (Pu rfl (Va (dx_neq rfl rfl rfl) rfl rfl (Ni (hK101 ?_)))))))
        refine WC.condF rfl (WC.skip (hK100 (Sq fun K102 hK102 => (Rg (Pu rfl (Va (dx_build rfl rfl (built_of_O (cs := [.int .i64 3, .int .i64 nn, .string ⟨#[]⟩, .slice none 0 0, .slice none 0 0]) (by kernel_rfl) (oC rfl (oC rfl oc_nil)))) rfl rfl (Pu rfl ?_)))))))
        refine WL.do (dx_store (cs' := [.int .i64 3, .int .i64 nn, .string ⟨#[]⟩, .slice none 0 0, .slice none 0 0]) (vs := [.int .i64 3, .int .i64 nn, .string ⟨#[]⟩, .slice none 0 0, .slice none 0 0]) rfl ty_size_27_5 rfl rfl rfl o5 k3 rfl (nB rfl) rfl) rfl ?_
        rintro _ W103 ⟨k105, o104⟩
        clear k3
        replace hB := o104.below hB l6
        refine Pu rfl (Pu rfl (Ni (hK102 ?_)))
        exact WC.ret fun a_ ha_ => hQ (cv_ret3 rfl (.agg rfl ty_agg_27_5 k105.range rfl) (.tmp rfl) (.tmp rfl) (.inl ⟨leafT 3 nn ⟨#[]⟩, kn, rfl, (by rw [← hkb]; exact (valB_n (hb_14.symm.trans (by first | assumption | exact Bool.eq_false_iff.2 (by assumption)))).trans (numR_t hn91)), leaf_rd _ _ _ _ _ _, by omega, by omega⟩) hB ha_)
       ·
        replace k3 := k3.below g97
        replace k19 := k19.below g97
        replace hB := below_then hB g97
        refine Pu rfl (Pu rfl (Pu rfl (Pu rfl (Pu rfl (Pu rfl (Pu rfl (Ni ?_)))))))
        refine hK84 (Sq fun K106 hK106 => (Sq fun K107 hK107 => (Rg (Pu rfl (Va (dx_neq rfl rfl rfl) rfl rfl (Ni (hK107 ?_)))))))
        refine WC.cond rfl (fun c108 => ?_) (fun c108 => ?_)
        ·
         replace c108 := bnot_t c108
         replace c108 := dF c108
         refine Sq fun K109 hK109 => (Rg (Va (dx_loadN rfl ty_agg_27_5 rfl k19.range rfl) rfl rfl (Pu rfl ?_)))
         refine WL.do (dx_store (cs' := zV) (vs := zV) rfl ty_size_27_5 rfl rfl rfl o5 k3 rfl (nB rfl) rfl) rfl ?_
         rintro _ W110 ⟨k112, o111⟩
         clear k3
         replace hB := o111.below hB l6
         refine Pu rfl (Pu rfl (Ni (hK109 ?_)))
         exact WC.ret fun a_ ha_ => hQ (cv_ret3 rfl (.agg rfl ty_agg_27_5 k112.range rfl) (.tmp rfl) (.tmp rfl) (.inr ⟨en, rfl, hn94, (by rw [← hkb]; exact (valB_n (hb_14.symm.trans (by first | assumption | exact Bool.eq_false_iff.2 (by assumption)))).trans (numR_f hn95))⟩) hB ha_)
        ·
         replace c108 := bnot_f c108
         replace c108 := dT c108
         exfalso; omega
      ·
       replace c83 := bvar_f c83
       refine Sq fun K113 hK113 => (Rg (Pu rfl (Pu rfl ?_)))
       refine Ge (dx_cv rfl Tryz.func40 rfl rfl rfl (refBegins_v s ({ data := #[91] }) kb W47 _ hL hs (by omega) (by decide))) rfl rfl ?_
       rintro _ W115 ⟨rfl, b114⟩
       replace k3 := k3.below b114
       replace k19 := k19.below b114
       replace hB := below_then hB b114
       replace hL := LL.below hL b114
       refine Va (dx_not rfl rfl) rfl rfl (Pu rfl ?_)
       refine WL.split 108 rfl (fun g116 => ?_) (fun g116 => ?_)
       ·
        replace g116 := bnot_t g116
        refine Pu rfl (Pu rfl ?_)
        refine Ge (dx_cv rfl Tryz.func40 rfl rfl rfl (refBegins_v s ({ data := #[123] }) kb W115 _ hL hs (by omega) (by decide))) rfl rfl ?_
        rintro _ W118 ⟨rfl, b117⟩
        replace k3 := k3.below b117
        replace k19 := k19.below b117
        replace hB := below_then hB b117
        replace hL := LL.below hL b117
        refine Va (dx_not rfl rfl) rfl rfl (Pu rfl (Pu rfl (Ni (hK113 ?_))))
        refine WC.cond rfl (fun c119 => ?_) (fun c119 => ?_)
        ·
         replace c119 := bnot_t c119
         refine Sq fun K120 hK120 => (Rg (Va (dx_loadN rfl ty_agg_27_5 rfl k19.range rfl) rfl rfl ?_))
         refine WL.do (dx_store (cs' := zV) (vs := zV) rfl ty_size_27_5 rfl rfl rfl o5 k3 rfl (nB rfl) rfl) rfl ?_
         rintro _ W121 ⟨k123, o122⟩
         clear k3
         replace hB := o122.below hB l6
         refine Pu rfl (Pu rfl (Ni (hK120 ?_)))
         exact WC.ret fun a_ ha_ => hQ (cv_ret3 rfl (.agg rfl ty_agg_27_5 k123.range rfl) (.tmp rfl) (.tmp rfl) (.inr ⟨2, rfl, by decide, (by rw [← hkb]; exact valB_0 (by omega) (by assumption) (by assumption) (by assumption) (begin_f (by decide) rfl (by assumption)) (hb_14.symm.trans (by first | assumption | exact Bool.eq_false_iff.2 (by assumption))) (begin_f (by decide) rfl (by assumption)) (begin_f (by decide) rfl (by assumption)))⟩) hB ha_)
        ·
         replace c119 := bnot_f c119
         refine Sq fun K124 hK124 => ?_
         have htq : takeS s kb 123 = true := begin_t (by decide) rfl (by assumption)
         obtain ⟨hlt, hch⟩ := take_t htq
         refine Rg (Pu rfl (Va (dx_geq rfl rfl rfl) rfl rfl (Pu rfl (Ni (hK124 ?_)))))
         refine WC.cond rfl (fun c125 => ?_) (fun c125 => ?_)
         ·
          replace c125 := dT c125
          refine Sq fun K126 hK126 => (Rg (Va (dx_loadN rfl ty_agg_27_5 rfl k19.range rfl) rfl rfl ?_))
          refine WL.do (dx_store (cs' := zV) (vs := zV) rfl ty_size_27_5 rfl rfl rfl o5 k3 rfl (nB rfl) rfl) rfl ?_
          rintro _ W127 ⟨k129, o128⟩
          clear k3
          replace hB := o128.below hB l6
          refine Pu rfl (Pu rfl (Ni (hK126 ?_)))
          exact WC.ret fun a_ ha_ => hQ (cv_ret3 rfl (.agg rfl ty_agg_27_5 k129.range rfl) (.tmp rfl) (.tmp rfl) (.inr ⟨4, rfl, by decide, (by rw [← hkb]; exact (valB_o htq).trans (nest_12 (by omega) hd))⟩) hB ha_)
         ·
          replace c125 := dF c125
          refine WC.skip (hK20 (Sq fun K130 hK130 => (Rg (Va (dx_build rfl rfl (built_of_O (cs := [.int .i64 5, .int .i64 0, .string ⟨#[]⟩, .slice none 0 0, .slice none 0 0]) (by kernel_rfl) (oC rfl oc_nil))) rfl rfl ?_))))
          refine Ge (dx_alloc rfl ty_zero_27 rfl) rfl rfl ?_
          rintro _ W131 ⟨rfl, k132, b133, z134⟩
          have n135 : w.heap.size ≠ W118.heap.size := Nat.ne_of_lt k3.lt
          have n136 : W9.heap.size ≠ W118.heap.size := Nat.ne_of_lt k19.lt
          have l137 := hB.size
          replace k3 := k3.below b133
          replace k19 := k19.below b133
          replace hB := below_then hB b133
          replace hL := LL.more hL z134
          refine WL.do (dx_store (cs' := [.int .i64 5, .int .i64 0, .string ⟨#[]⟩, .slice none 0 0, .slice none 0 0]) (vs := [.int .i64 5, .int .i64 0, .string ⟨#[]⟩, .slice none 0 0, .slice none 0 0]) rfl ty_size_27_5 rfl rfl rfl o5 k132 rfl (nB rfl) rfl) rfl ?_
          rintro _ W138 ⟨k140, o139⟩
          replace k3 := k3.other o139 n135
          replace k19 := k19.other o139 n136
          clear k132
          replace hB := o139.below hB l137
          replace hL := LL.only hL o139
          refine Pu rfl (Ni (hK130 (Sq fun K141 hK141 => (Sq fun K142 hK142 => (Rg (Pu rfl (Pu rfl ?_)))))))
          refine Va (dx_at kb rfl Tryz.underlying9 rfl rfl (by omega) (by omega)) rfl rfl (Va (dx_eql rfl rfl rfl) rfl rfl (Ni (hK142 ?_)))
          refine WC.cond rfl (fun c143 => ?_) (fun c143 => ?_)
          ·
           replace c143 := dT c143
           refine Rg (Va (dx_build rfl rfl (built_of_O (cs := [.int .i64 6, .int .i64 0, .string ⟨#[]⟩, .slice none 0 0, .slice none 0 0]) (by kernel_rfl) (oC rfl oc_nil))) rfl rfl ?_)
           refine WL.do (dx_store (cs' := [.int .i64 6, .int .i64 0, .string ⟨#[]⟩, .slice none 0 0, .slice none 0 0]) (vs := [.int .i64 6, .int .i64 0, .string ⟨#[]⟩, .slice none 0 0, .slice none 0 0]) rfl ty_size_27_5 rfl rfl rfl o5 k140 rfl (nB rfl) rfl) rfl ?_
           rintro _ W144 ⟨k146, o145⟩
           replace k3 := k3.other o145 n135
           replace k19 := k19.other o145 n136
           clear k140
           replace hB := o145.below hB l137
           replace hL := LL.only hL o145
           refine Pu rfl (Ni (hK141 (Sq fun K147 hK147 => ?_)))
           have hP : valB s dp (listS s vs kb) (objS s vs kb) kb = objS s vs kb := (valB_o htq).trans (nest_lt (by omega))
           refine Rg (Pu rfl (Pu rfl (Va (dx_add (r := ((kb + 1 : Nat) : Int)) rfl rfl rfl (by rw [wrap64_id (by omega)]; omega)) rfl rfl ?_)))
           refine Ge (dx_cv rfl Tryz.func21 rfl rfl rfl (refBlank_e s (kb + 1) W144 _ hL hs (by omega))) rfl rfl ?_
           rintro _ W149 ⟨⟨kc, rfl, hkc, hkc1, hkc2⟩, b148⟩
           replace k3 := k3.below b148
           replace k19 := k19.below b148
           replace k146 := k146.below b148
           replace hB := below_then hB b148
           replace hL := LL.below hL b148
           refine Pu rfl (Ni (hK147 (Sq fun K150 hK150 => (Sq fun K151 hK151 => ?_))))
           have hJ27 : ∀ (b_ : Bool) (f_ : Fl), b_ = takeS s kc 125 → Sub [(0, .string s), (1, .int .i64 (kc : Int)), (2, .int .i64 (dp : Int)), (6, .pointer (some ⟨w.heap.size, 0, none⟩)), (7, .int .i64 0), (8, .int .i64 0), (9, .pointer (some ⟨W9.heap.size, 0, none⟩)), (15, .pointer (some ⟨W118.heap.size, 0, none⟩)), (16, .int .u8 125), (139, .bool b_)] f_ → ∀ a, Fr 226 a f_ → K151 a W149 := by
            intro b_ f_ hb_27 hs_
            refine hK151 (WC.sub hs_ ?_)
            refine WC.cond rfl (fun c152 => ?_) (fun c152 => ?_)
            ·
             refine Sq fun K153 hK153 => ?_
             have hz := (take_t (hb_27.symm.trans (by assumption))).1
             refine Rg (Va (dx_loadN rfl ty_agg_27_5 rfl k146.range rfl) rfl rfl (Pu rfl (Va (dx_add (r := ((kc + 1 : Nat) : Int)) rfl rfl rfl (by rw [wrap64_id (by omega)]; omega)) rfl rfl ?_)))
             refine WL.do (dx_store (cs' := [.int .i64 6, .int .i64 0, .string ⟨#[]⟩, .slice none 0 0, .slice none 0 0]) (vs := [.int .i64 6, .int .i64 0, .string ⟨#[]⟩, .slice none 0 0, .slice none 0 0]) rfl ty_size_27_5 rfl rfl rfl o5 k3 rfl (nB rfl) rfl) rfl ?_
             rintro _ W154 ⟨k156, o155⟩
             clear k3
             replace hB := o155.below hB l6
             refine Pu rfl (Pu rfl (Ni (hK153 ?_)))
             exact WC.ret fun a_ ha_ => hQ (cv_ret3 rfl (.agg rfl ty_agg_27_5 k156.range rfl) (.tmp rfl) (.tmp rfl) (.inl ⟨tNil 6, kc + 1, rfl, (by rw [← hkb]; exact hP.trans ((objS_k (memS_0 rfl hkc (hb_27.symm.trans (by first | assumption | exact Bool.eq_false_iff.2 (by assumption))) rfl)).trans (by rw [tNil_er]))), tNil_rd _ _ _ _, by omega, by omega⟩) hB ha_)
            ·
             replace c152 := bvar_f c152
             refine WC.skip (hK150 (WC.block ?_))
             have hm0 : memS s (pairS s vs) 125 kb ([], []) = memL s (pairS s vs) 125 (s.size + 1) kc ([], []) := memS_1 rfl hkc (hb_27.symm.trans (by first | assumption | exact Bool.eq_false_iff.2 (by assumption)))
             have htb : RdT (n + 2) (W118.heap.size :: W9.heap.size :: w.heap.size :: L) W149 (tNil 6) := tNil_rd _ _ _ _
             refine WC.loop2 (fun (kl : Nat) (tb : Tr) => [(0, .string s), (2, .int .i64 (dp : Int)), (6, .pointer (some ⟨w.heap.size, 0, none⟩)), (9, .pointer (some ⟨W9.heap.size, 0, none⟩)), (15, .pointer (some ⟨W118.heap.size, 0, none⟩)), (16, .int .u8 125), (1, .int .i64 (kl : Int))]) (fun (kl : Nat) (tb : Tr) W => kl ≤ s.size ∧ kb < kl ∧ ObT tb ∧ tb.names.length ≤ kl ∧ (∃ n_, s.size - kl < n_ ∧ memS s (pairS s vs) 125 kb ([], []) = memL s (pairS s vs) 125 n_ kl (tb.names, tb.items.map Tr.er)) ∧ Below w.heap.size w W ∧ LL (W118.heap.size :: W9.heap.size :: w.heap.size :: L) W ∧ RdT (n + 2) (W118.heap.size :: W9.heap.size :: w.heap.size :: L) W tb ∧ Blk W w.heap.size [.int .i64 0, .int .i64 0, .string ⟨#[]⟩, .slice none 0 0, .slice none 0 0] ∧ Blk W W9.heap.size [.int .i64 0, .int .i64 0, .string ⟨#[]⟩, .slice none 0 0, .slice none 0 0] ∧ Blk W W118.heap.size [.int .i64 tb.kind, .int .i64 tb.num, .string tb.text, tb.nv, tb.iv]) (fun (kl : Nat) (tb : Tr) => s.size - kl) kc (tNil 6) (by repeat first | exact trivial | refine aR ?_ | refine aI (by omega) ?_) ⟨(by omega), (by omega), obT_nil, (Nat.zero_le _), ⟨s.size + 1, by omega, hm0⟩, hB, hL, htb, k3, k19, k146⟩ ?_
             clear htb k3 k19 k146 hB hL
             rintro K157 kl tb W158 ⟨hkl, hkk, hob, hnl, hv, hB, hL, htb, k3, k19, k146⟩ hK157
             refine WC.block (Sq fun K159 hK159 => ?_)
             obtain ⟨n_, hn1, hv⟩ := hv
             obtain ⟨n_, rfl⟩ : ∃ m, n_ = m + 1 := ⟨n_ - 1, by omega⟩
             refine Rg (Pu rfl (Ni (hK159 (Sq fun K160 hK160 => (Sq fun K161 hK161 => (Rg (Va (dx_fld (o1 := 0) rfl ty_fld_27_0_0 rfl rfl) rfl rfl ?_)))))))
             refine Va (dx_load rfl ty_one_3 rfl (k146.cell (k := 0) rfl)) rfl rfl (Va (dx_eql rfl rfl rfl) rfl rfl (Ni (hK161 ?_)))
             refine WC.cond rfl (fun c162 => ?_) (fun c162 => ?_)
             ·
              replace c162 := dT c162
              refine Sq fun K163 hK163 => (Rg (Pu rfl (Pu rfl (Pu rfl ?_))))
              refine Ge (dx_cv rfl Tryz.func21 rfl rfl rfl (refBlank_e s kl W158 _ hL hs (by omega))) rfl rfl ?_
              rintro _ W165 ⟨⟨kd, rfl, hkd, hkd1, hkd2⟩, b164⟩
              replace htb := htb.below b164
              replace k3 := k3.below b164
              replace k19 := k19.below b164
              replace k146 := k146.below b164
              replace hB := below_then hB b164
              replace hL := LL.below hL b164
              refine Ge (dx_cv rfl Tryz.func41 rfl rfl rfl (refQuoteT_v s kd W165 _ hL hs (by omega) (refEsc_at hs))) rfl rfl ?_
              rintro _ W183 ⟨(⟨nm, kq, rfl, hq180, hq174, hq175, hq176, hq177, hq178⟩ | ⟨rfl, hq179⟩), g182⟩
              ·
               replace htb := htb.below g182
               replace k3 := k3.below g182
               replace k19 := k19.below g182
               replace k146 := k146.below g182
               replace hB := below_then hB g182
               replace hL := LL.below hL g182
               refine Pu rfl (Pu rfl (Pu rfl (Pu rfl (Pu rfl (Ni (hK163 (Sq fun K185 hK185 => ?_)))))))
               refine Sq fun K186 hK186 => (Rg (Pu rfl (Va (dx_lss rfl rfl rfl) rfl rfl (Ni (hK186 ?_)))))
               refine WC.cond rfl (fun c187 => ?_) (fun c187 => ?_)
               ·
                replace c187 := dT c187
                exfalso; omega
               ·
                replace c187 := dF c187
                refine WC.skip (hK185 (Sq fun K188 hK188 => (Rg (Va (dx_loadN rfl ty_agg_27_5 rfl k146.range rfl) rfl rfl (Pu rfl ?_)))))
                refine Ge (dx_cv rfl Tryz.func43 rfl rfl rfl (refGet_e (n + 1) tb (strOfNums nm) W183 _ hL htb)) rfl rfl ?_
                rintro _ W190 ⟨⟨ga, rfl, hga⟩, b189⟩
                replace htb := htb.below b189
                replace k3 := k3.below b189
                replace k19 := k19.below b189
                replace k146 := k146.below b189
                replace hB := below_then hB b189
                replace hL := LL.below hL b189
                refine Pu rfl (Pu rfl (Pu rfl ?_))
                refine Ge (dx_alloc rfl ty_zero_27 rfl) rfl rfl ?_
                rintro _ W191 ⟨rfl, k192, b193, z194⟩
                have n195 : w.heap.size ≠ W190.heap.size := Nat.ne_of_lt k3.lt
                have n196 : W9.heap.size ≠ W190.heap.size := Nat.ne_of_lt k19.lt
                have n197 : W118.heap.size ≠ W190.heap.size := Nat.ne_of_lt k146.lt
                have l198 := hB.size
                replace htb := htb.more b193 (Nat.le_refl _)
                replace hga := hga.more b193 (Nat.le_refl _)
                replace k3 := k3.below b193
                replace k19 := k19.below b193
                replace k146 := k146.below b193
                replace hB := below_then hB b193
                replace hL := LL.more hL z194
                refine WL.do (dx_store (cs' := [.int .i64 ga.kind, .int .i64 ga.num, .string ga.text, ga.nv, ga.iv]) (vs := [.int .i64 ga.kind, .int .i64 ga.num, .string ga.text, ga.nv, ga.iv]) rfl ty_size_27_5 rfl rfl rfl (oC rfl (oC rfl (oC rfl (oC (hga.1).one (oC (hga.2.1).one oc_nil))))) k192 rfl (nB rfl) rfl) rfl ?_
                rintro _ W199 ⟨k201, o200⟩
                replace k3 := k3.other o200 n195
                replace k19 := k19.other o200 n196
                replace k146 := k146.other o200 n197
                clear k192
                replace htb := htb.only o200 (.head _)
                replace hB := o200.below hB l198
                replace hL := LL.only hL o200
                refine Pu rfl (Ni (hK188 (Sq fun K202 hK202 => (Sq fun K203 hK203 => (Rg (Pu rfl (Ni ?_)))))))
                refine hK203 ?_
                refine WC.cond rfl (fun c204 => ?_) (fun c204 => ?_)
                ·
                 refine Sq fun K205 hK205 => (Rg (Va (dx_loadN rfl ty_agg_27_5 rfl k19.range rfl) rfl rfl ?_))
                 refine WL.do (dx_store (cs' := zV) (vs := zV) rfl ty_size_27_5 rfl rfl rfl o5 k3 rfl (nB rfl) rfl) rfl ?_
                 rintro _ W206 ⟨k208, o207⟩
                 clear k3
                 replace hB := o207.below hB l6
                 refine Pu rfl (Pu rfl (Ni (hK205 ?_)))
                 exact WC.ret fun a_ ha_ => hQ (cv_ret3 rfl (.agg rfl ty_agg_27_5 k208.range rfl) (.tmp rfl) (.tmp rfl) (.inr ⟨6, rfl, (by decide), (by rw [← hkb]; exact hP.trans (objS_x (hv.trans (memL_e hkd ((pairS_n hq180 hq174 rfl).trans (pairN_t rfl (hob.get_t (by assumption))))))))⟩) hB ha_)
                ·
                 refine WC.skip (hK202 (Sq fun K209 hK209 => ?_))
                 have hnn := hob.get_f (nm := strOfNums nm) (by assumption)
                 refine Rg (Pu rfl (Pu rfl (Ni (hK209 (Sq fun K210 hK210 => (Rg (Pu rfl ?_)))))))
                 refine Pu rfl ?_
                 refine Ge (dx_cv rfl Tryz.func21 rfl rfl rfl (refBlank_e s kq W199 _ hL hs (by omega))) rfl rfl ?_
                 rintro _ W212 ⟨⟨ke, rfl, hke, hke1, hke2⟩, b211⟩
                 replace htb := htb.below b211
                 replace k3 := k3.below b211
                 replace k19 := k19.below b211
                 replace k146 := k146.below b211
                 replace hB := below_then hB b211
                 replace hL := LL.below hL b211
                 refine Pu rfl (Ni (hK210 (Sq fun K213 hK213 => (Sq fun K214 hK214 => (Rg (Pu rfl (Pu rfl ?_)))))))
                 refine Ge (dx_cv rfl Tryz.func40 rfl rfl rfl (refBegins_v s ({ data := #[58] }) ke W212 _ hL hs (by omega) (by decide))) rfl rfl ?_
                 rintro _ W216 ⟨rfl, b215⟩
                 replace htb := htb.below b215
                 replace k3 := k3.below b215
                 replace k19 := k19.below b215
                 replace k146 := k146.below b215
                 replace hB := below_then hB b215
                 replace hL := LL.below hL b215
                 refine Va (dx_not rfl rfl) rfl rfl (Ni (hK214 ?_))
                 refine WC.cond rfl (fun c217 => ?_) (fun c217 => ?_)
                 ·
                  replace c217 := bnot_t c217
                  refine Sq fun K218 hK218 => (Rg (Va (dx_loadN rfl ty_agg_27_5 rfl k19.range rfl) rfl rfl ?_))
                  refine WL.do (dx_store (cs' := zV) (vs := zV) rfl ty_size_27_5 rfl rfl rfl o5 k3 rfl (nB rfl) rfl) rfl ?_
                  rintro _ W219 ⟨k221, o220⟩
                  clear k3
                  replace hB := o220.below hB l6
                  refine Pu rfl (Pu rfl (Ni (hK218 ?_)))
                  exact WC.ret fun a_ ha_ => hQ (cv_ret3 rfl (.agg rfl ty_agg_27_5 k221.range rfl) (.tmp rfl) (.tmp rfl) (.inr ⟨2, rfl, (by decide), (by rw [← hkb]; exact hP.trans (objS_x (hv.trans (memL_e hkd ((pairS_n hq180 hq174 rfl).trans (pairN_c rfl hnn hke (begin_f (by decide) rfl (by assumption))))))))⟩) hB ha_)
                 ·
                  replace c217 := bnot_f c217
                  refine WC.skip (hK213 ?_)
                  have hz := (take_t (begin_t (c := 58) (wd := ⟨#[58]⟩) (by decide) rfl (by assumption))).1
                  refine Rg (Pu rfl (Va (dx_add (r := ((ke + 1 : Nat) : Int)) rfl rfl rfl (by rw [wrap64_id (by omega)]; omega)) rfl rfl (Pu rfl (Ni (hK160 (Sq fun K222 hK222 => (Rg ?_)))))))
                  refine Pu rfl (Pu rfl (Pu rfl (Va (dx_add (r := ((dp + 1 : Nat) : Int)) rfl rfl rfl (by rw [wrap64_id (by omega)]; omega)) rfl rfl ?_)))
                  refine Ge (dx_cv rfl Tryz.func20 rfl rfl rfl (hc (by omega) (ke + 1) W216 _ hL (by omega))) rfl rfl ?_
                  rintro _ W236 ⟨(⟨x, kx, rfl, hv229, hx, hv230, hv231⟩ | ⟨ex, rfl, hv232, hv233⟩), g235⟩
                  ·
                   replace htb := htb.below g235
                   replace k3 := k3.below g235
                   replace k19 := k19.below g235
                   replace k146 := k146.below g235
                   replace hB := below_then hB g235
                   replace hL := LL.below hL g235
                   have hbl := (blankS_le (s := s) (k := ke + 1) (by omega)).1
                   refine Pu rfl (Pu rfl (Pu rfl (Pu rfl ?_)))
                   refine Ge (dx_alloc rfl ty_zero_27 rfl) rfl rfl ?_
                   rintro _ W238 ⟨rfl, k239, b240, z241⟩
                   have n242 : w.heap.size ≠ W236.heap.size := Nat.ne_of_lt k3.lt
                   have n243 : W9.heap.size ≠ W236.heap.size := Nat.ne_of_lt k19.lt
                   have n244 : W118.heap.size ≠ W236.heap.size := Nat.ne_of_lt k146.lt
                   have l246 := hB.size
                   replace htb := htb.more b240 (Nat.le_refl _)
                   replace hx := hx.more b240 (Nat.le_refl _)
                   replace k3 := k3.below b240
                   replace k19 := k19.below b240
                   replace k146 := k146.below b240
                   replace hB := below_then hB b240
                   replace hL := LL.more hL z241
                   refine WL.do (dx_store (cs' := [.int .i64 x.kind, .int .i64 x.num, .string x.text, x.nv, x.iv]) (vs := [.int .i64 x.kind, .int .i64 x.num, .string x.text, x.nv, x.iv]) rfl ty_size_27_5 rfl rfl rfl (oC rfl (oC rfl (oC rfl (oC (hx.1).one (oC (hx.2.1).one oc_nil))))) k239 rfl (nB rfl) rfl) rfl ?_
                   rintro _ W247 ⟨k249, o248⟩
                   replace k3 := k3.other o248 n242
                   replace k19 := k19.other o248 n243
                   replace k146 := k146.other o248 n244
                   clear k239
                   replace htb := htb.only o248 (.head _)
                   replace hx := hx.only o248 (.head _)
                   replace hB := o248.below hB l246
                   replace hL := LL.only hL o248
                   refine Pu rfl (Pu rfl (Ni (hK222 (Sq fun K250 hK250 => (Sq fun K251 hK251 => (Rg (Pu rfl ?_)))))))
                   refine Va (dx_neq rfl rfl rfl) rfl rfl (Ni (hK251 (WC.condF rfl (WC.skip (hK250 (Sq fun K252 hK252 => (Sq fun K253 hK253 => ?_)))))))
                   refine Rg (Va (dx_fld (o1 := 0) rfl ty_fld_27_0_0 rfl rfl) rfl rfl (Va (dx_load rfl ty_one_3 rfl (k146.cell (k := 0) rfl)) rfl rfl (Va (dx_eql rfl rfl rfl) rfl rfl (Ni (hK253 ?_)))))
                   refine WC.cond rfl (fun c254 => ?_) (fun c254 => ?_)
                   ·
                    replace c254 := dT c254
                    refine Rg (Va (dx_loadN rfl ty_agg_27_5 rfl k146.range rfl) rfl rfl (Pu rfl (Va (dx_loadN rfl ty_agg_27_5 rfl k249.range rfl) rfl rfl ?_)))
                    refine Ge (dx_cv rfl Tryz.func44 rfl rfl rfl (refPut_v (n + 1) tb x (strOfNums nm) W247 _ hL htb hx.up hob.2.1 hob.2.2 (by omega))) rfl rfl ?_
                    rintro _ W256 ⟨⟨t, rfl, hte, htt⟩, b255⟩
                    replace htb := htb.below b255
                    replace hx := hx.below b255
                    replace k3 := k3.below b255
                    replace k19 := k19.below b255
                    replace k146 := k146.below b255
                    replace hB := below_then hB b255
                    replace hL := LL.below hL b255
                    obtain ⟨hob2, hns2, hts2, hln2⟩ := hob.put hnn hte
                    replace htt := hob.put_deep hnn hte htb hx htt
                    refine WL.do (dx_store (cs' := [.int .i64 t.kind, .int .i64 t.num, .string t.text, t.nv, t.iv]) (vs := [.int .i64 t.kind, .int .i64 t.num, .string t.text, t.nv, t.iv]) rfl ty_size_27_5 rfl rfl rfl (oC rfl (oC rfl (oC rfl (oC (htt.1).one (oC (htt.2.1).one oc_nil))))) k146 rfl (nB rfl) rfl) rfl ?_
                    rintro _ W257 ⟨k259, o258⟩
                    replace k3 := k3.other o258 n135
                    replace k19 := k19.other o258 n136
                    clear k146
                    replace hx := hx.only o258 (.tail _ (.tail _ (.head _)))
                    replace htt := htt.only o258 (.tail _ (.tail _ (.head _)))
                    replace hB := o258.below hB l137
                    replace hL := LL.only hL o258
                    refine Ni (hK252 (Sq fun K260 hK260 => ?_))
                    have hpair : pairS s vs kd (tb.names, tb.items.map Tr.er) = .ok ((insA (lbT (strOfNums nm) tb.names) (strOfNums nm) tb.names, insA (lbT (strOfNums nm) tb.names) x.er (tb.items.map Tr.er)), kx) := (pairS_n hq180 hq174 rfl).trans (pairN_k rfl hnn hke (begin_t (by decide) rfl (by assumption)) rfl rfl hv229)
                    refine Rg (Pu rfl (Pu rfl ?_))
                    refine Ge (dx_cv rfl Tryz.func21 rfl rfl rfl (refBlank_e s kx W257 _ hL hs (by omega))) rfl rfl ?_
                    rintro _ W262 ⟨⟨kg, rfl, hkg, hkg1, hkg2⟩, b261⟩
                    replace hx := hx.below b261
                    replace htt := htt.below b261
                    replace k3 := k3.below b261
                    replace k19 := k19.below b261
                    replace k259 := k259.below b261
                    replace hB := below_then hB b261
                    replace hL := LL.below hL b261
                    refine Pu rfl (Ni (hK260 (Sq fun K263 hK263 => (Sq fun K264 hK264 => ?_))))
                    have hJ49 : ∀ (b_ : Bool) (f_ : Fl), b_ = takeS s kg 125 → Sub [(0, .string s), (2, .int .i64 (dp : Int)), (6, .pointer (some ⟨w.heap.size, 0, none⟩)), (9, .pointer (some ⟨W9.heap.size, 0, none⟩)), (15, .pointer (some ⟨W118.heap.size, 0, none⟩)), (16, .int .u8 125), (1, .int .i64 (kg : Int)), (17, .string (strOfNums nm)), (18, .string (strOfNums nm)), (19, .int .i64 (kq : Int)), (20, .pointer (some ⟨W190.heap.size, 0, none⟩)), (21, .bool ((getT tb (strOfNums nm)).2)), (22, .pointer (some ⟨W236.heap.size, 0, none⟩)), (23, .int .i64 (kx : Int)), (24, .int .i64 0), (215, .bool b_)] f_ → ∀ a, Fr 226 a f_ → K264 a W262 := by
                     intro b_ f_ hb_49 hs_
                     refine hK264 (WC.sub hs_ ?_)
                     refine WC.cond rfl (fun c265 => ?_) (fun c265 => ?_)
                     ·
                      refine Sq fun K266 hK266 => ?_
                      have hz := (take_t (hb_49.symm.trans (by assumption))).1
                      refine Rg (Va (dx_loadN rfl ty_agg_27_5 rfl k259.range rfl) rfl rfl (Pu rfl (Va (dx_add (r := ((kg + 1 : Nat) : Int)) rfl rfl rfl (by rw [wrap64_id (by omega)]; omega)) rfl rfl ?_)))
                      refine WL.do (dx_store (cs' := [.int .i64 t.kind, .int .i64 t.num, .string t.text, t.nv, t.iv]) (vs := [.int .i64 t.kind, .int .i64 t.num, .string t.text, t.nv, t.iv]) rfl ty_size_27_5 rfl rfl rfl (oC rfl (oC rfl (oC rfl (oC (htt.1).one (oC (htt.2.1).one oc_nil))))) k3 rfl (nB rfl) rfl) rfl ?_
                      rintro _ W267 ⟨k269, o268⟩
                      clear k3
                      replace hx := hx.only o268 (.tail _ (.tail _ (.tail _ (.tail _ (.head _)))))
                      replace htt := htt.only o268 (.tail _ (.tail _ (.tail _ (.tail _ (.head _)))))
                      replace hB := o268.below hB l6
                      refine Pu rfl (Pu rfl (Ni (hK266 ?_)))
                      exact WC.ret fun a_ ha_ => hQ (cv_ret3 rfl (.agg rfl ty_agg_27_5 k269.range rfl) (.tmp rfl) (.tmp rfl) (.inl ⟨t, kg + 1, rfl, (by rw [← hkb]; exact hP.trans ((objS_k (hv.trans (memL_0 hkd hpair hkg (hb_49.symm.trans (by first | assumption | exact Bool.eq_false_iff.2 (by assumption))) rfl))).trans (by rw [hob2.1, hns2, hts2]))), (htt.less (fun x hx => (.tail _ (.tail _ (.tail _ (.tail _ (.tail _ hx))))))), by omega, by omega⟩) hB ha_)
                     ·
                      replace c265 := bvar_f c265
                      refine WC.skip (hK263 (Sq fun K270 hK270 => (Sq fun K271 hK271 => (Rg (Pu rfl (Pu rfl ?_))))))
                      refine Ge (dx_cv rfl Tryz.func40 rfl rfl rfl (refBegins_v s ({ data := #[44] }) kg W262 _ hL hs (by omega) (by decide))) rfl rfl ?_
                      rintro _ W273 ⟨rfl, b272⟩
                      replace hx := hx.below b272
                      replace htt := htt.below b272
                      replace k3 := k3.below b272
                      replace k19 := k19.below b272
                      replace k259 := k259.below b272
                      replace hB := below_then hB b272
                      replace hL := LL.below hL b272
                      refine Va (dx_not rfl rfl) rfl rfl (Ni (hK271 ?_))
                      refine WC.cond rfl (fun c274 => ?_) (fun c274 => ?_)
                      ·
                       replace c274 := bnot_t c274
                       refine Sq fun K275 hK275 => (Rg (Va (dx_loadN rfl ty_agg_27_5 rfl k19.range rfl) rfl rfl ?_))
                       refine WL.do (dx_store (cs' := zV) (vs := zV) rfl ty_size_27_5 rfl rfl rfl o5 k3 rfl (nB rfl) rfl) rfl ?_
                       rintro _ W276 ⟨k278, o277⟩
                       clear k3
                       replace hB := o277.below hB l6
                       refine Pu rfl (Pu rfl (Ni (hK275 ?_)))
                       exact WC.ret fun a_ ha_ => hQ (cv_ret3 rfl (.agg rfl ty_agg_27_5 k278.range rfl) (.tmp rfl) (.tmp rfl) (.inr ⟨2, rfl, (by decide), (by rw [← hkb]; exact hP.trans (objS_x (hv.trans (memL_x hkd hpair hkg (hb_49.symm.trans (by first | assumption | exact Bool.eq_false_iff.2 (by assumption))) (begin_f (by decide) rfl (by assumption))))))⟩) hB ha_)
                      ·
                       replace c274 := bnot_f c274
                       refine WC.skip (hK270 ?_)
                       have hz := (take_t (begin_t (c := 44) (wd := ⟨#[44]⟩) (by decide) rfl (by assumption))).1
                       refine Rg (Pu rfl (Va (dx_add (r := ((kg + 1 : Nat) : Int)) rfl rfl rfl (by rw [wrap64_id (by omega)]; omega)) rfl rfl (Pu rfl (Ni ?_))))
                       replace hL := hL.less (fun x hx => (.tail _ (.tail _ hx)))
                       replace htt := htt.less (fun x hx => (.tail _ (.tail _ hx)))
                       exact hK157 (kg + 1) t ⟨(by omega), (by omega), hob2, (by omega), ⟨n_, by omega, by rw [hns2, hts2]; exact hv.trans (memL_c hkd hpair hkg (hb_49.symm.trans (by first | assumption | exact Bool.eq_false_iff.2 (by assumption))) (begin_t (by decide) rfl (by assumption)) rfl)⟩, hB, hL, htt, k3, k19, k259⟩ (by omega) (by repeat first | exact trivial | refine aR ?_ | refine aI (by omega) ?_)
                    refine Rg (Pu rfl (Pu rfl (Va (dx_lenT rfl Tryz.underlying9 rfl) rfl rfl (Va (dx_lss rfl rfl rfl) rfl rfl (Pu rfl ?_)))))
                    refine WL.split 209 rfl (fun g279 => ?_) (fun g279 => ?_)
                    ·
                     replace g279 := dT g279
                     refine Pu rfl (Pu rfl (Va (dx_at kg rfl Tryz.underlying9 rfl rfl (by omega) (by omega)) rfl rfl (Pu rfl (Va (dx_eql rfl rfl rfl) rfl rfl (Pu rfl (Ni ?_))))))
                     exact hJ49 (decide (atS s kg = 125)) _ (by first | exact take_n (by omega) | exact take_d (by omega)) (by repeat first | exact trivial | refine aR ?_)
                    ·
                     replace g279 := dF g279
                     refine Of rfl (Of rfl (Of rfl (Of rfl (Of rfl (Pu rfl (Ni ?_))))))
                     exact hJ49 false _ (by first | exact take_n (by omega) | exact take_d (by omega)) (by repeat first | exact trivial | refine aR ?_)
                   ·
                    replace c254 := dF c254
                    exact absurd hob.kind (by simpa using c254)
                  ·
                   replace k3 := k3.below g235
                   replace k19 := k19.below g235
                   replace hB := below_then hB g235
                   refine Pu rfl (Pu rfl (Pu rfl (Pu rfl ?_)))
                   refine Ge (dx_alloc rfl ty_zero_27 rfl) rfl rfl ?_
                   rintro _ W280 ⟨rfl, k281, b282, z283⟩
                   have n284 : w.heap.size ≠ W236.heap.size := Nat.ne_of_lt k3.lt
                   have n285 : W9.heap.size ≠ W236.heap.size := Nat.ne_of_lt k19.lt
                   have l288 := hB.size
                   replace k3 := k3.below b282
                   replace k19 := k19.below b282
                   replace hB := below_then hB b282
                   refine WL.do (dx_store (cs' := zV) (vs := zV) rfl ty_size_27_5 rfl rfl rfl o5 k281 rfl (nB rfl) rfl) rfl ?_
                   rintro _ W289 ⟨k291, o290⟩
                   replace k3 := k3.other o290 n284
                   replace k19 := k19.other o290 n285
                   clear k281
                   replace hB := o290.below hB l288
                   refine Pu rfl (Pu rfl (Ni (hK222 (Sq fun K292 hK292 => (Sq fun K293 hK293 => (Rg (Pu rfl ?_)))))))
                   refine Va (dx_neq rfl rfl rfl) rfl rfl (Ni (hK293 ?_))
                   refine WC.cond rfl (fun c294 => ?_) (fun c294 => ?_)
                   ·
                    replace c294 := bnot_t c294
                    replace c294 := dF c294
                    refine Sq fun K295 hK295 => (Rg (Va (dx_loadN rfl ty_agg_27_5 rfl k19.range rfl) rfl rfl (Pu rfl ?_)))
                    refine WL.do (dx_store (cs' := zV) (vs := zV) rfl ty_size_27_5 rfl rfl rfl o5 k3 rfl (nB rfl) rfl) rfl ?_
                    rintro _ W296 ⟨k298, o297⟩
                    clear k3
                    replace hB := o297.below hB l6
                    refine Pu rfl (Pu rfl (Ni (hK295 ?_)))
                    exact WC.ret fun a_ ha_ => hQ (cv_ret3 rfl (.agg rfl ty_agg_27_5 k298.range rfl) (.tmp rfl) (.tmp rfl) (.inr ⟨ex, rfl, hv232, (by rw [← hkb]; exact hP.trans (objS_x (hv.trans (memL_e hkd ((pairS_n hq180 hq174 rfl).trans (pairN_e rfl hnn hke (begin_t (by decide) rfl (by assumption)) rfl rfl hv233))))))⟩) hB ha_)
                   ·
                    replace c294 := bnot_f c294
                    replace c294 := dT c294
                    exfalso; omega
              ·
               replace k3 := k3.below g182
               replace k19 := k19.below g182
               replace hB := below_then hB g182
               refine Pu rfl (Pu rfl (Pu rfl (Pu rfl (Pu rfl (Ni (hK163 (Sq fun K299 hK299 => ?_)))))))
               refine Sq fun K300 hK300 => (Rg (Pu rfl (Va (dx_lss rfl rfl rfl) rfl rfl (Ni (hK300 (WC.condT rfl (Sq fun K301 hK301 => ?_)))))))
               refine Rg (Va (dx_loadN rfl ty_agg_27_5 rfl k19.range rfl) rfl rfl ?_)
               refine WL.do (dx_store (cs' := zV) (vs := zV) rfl ty_size_27_5 rfl rfl rfl o5 k3 rfl (nB rfl) rfl) rfl ?_
               rintro _ W302 ⟨k304, o303⟩
               clear k3
               replace hB := o303.below hB l6
               refine Pu rfl (Pu rfl (Ni (hK301 ?_)))
               exact WC.ret fun a_ ha_ => hQ (cv_ret3 rfl (.agg rfl ty_agg_27_5 k304.range rfl) (.tmp rfl) (.tmp rfl) (.inr ⟨2, rfl, (by decide), (by rw [← hkb]; exact hP.trans (objS_x (hv.trans (memL_e hkd (pairS_no hq179)))))⟩) hB ha_)
             ·
              replace c162 := dF c162
              exact absurd hob.kind (by simpa using c162)
           refine Rg (Pu rfl (Pu rfl (Va (dx_lenT rfl Tryz.underlying9 rfl) rfl rfl (Va (dx_lss rfl rfl rfl) rfl rfl (Pu rfl ?_)))))
           refine WL.split 133 rfl (fun g305 => ?_) (fun g305 => ?_)
           ·
            replace g305 := dT g305
            refine Pu rfl (Pu rfl (Va (dx_at kc rfl Tryz.underlying9 rfl rfl (by omega) (by omega)) rfl rfl (Pu rfl (Va (dx_eql rfl rfl rfl) rfl rfl (Pu rfl (Ni ?_))))))
            exact hJ27 (decide (atS s kc = 125)) _ (by first | exact take_n (by omega) | exact take_d (by omega)) (by repeat first | exact trivial | refine aR ?_)
           ·
            replace g305 := dF g305
            refine Of rfl (Of rfl (Of rfl (Of rfl (Of rfl (Pu rfl (Ni ?_))))))
            exact hJ27 false _ (by first | exact take_n (by omega) | exact take_d (by omega)) (by repeat first | exact trivial | refine aR ?_)
          ·
           replace c143 := dF c143
           exfalso; omega
       ·
        replace g116 := bnot_f g116
        refine Of rfl (Of rfl (Of rfl (Of rfl (Pu rfl (Pu rfl (Ni (hK113 ?_)))))))
        refine WC.condF rfl (Sq fun K306 hK306 => ?_)
        have htq : takeS s kb 91 = true := begin_t (by decide) rfl (by assumption)
        obtain ⟨hlt, hch⟩ := take_t htq
        refine Rg (Pu rfl (Va (dx_geq rfl rfl rfl) rfl rfl (Pu rfl (Ni (hK306 ?_)))))
        refine WC.cond rfl (fun c307 => ?_) (fun c307 => ?_)
        ·
         replace c307 := dT c307
         refine Sq fun K308 hK308 => (Rg (Va (dx_loadN rfl ty_agg_27_5 rfl k19.range rfl) rfl rfl ?_))
         refine WL.do (dx_store (cs' := zV) (vs := zV) rfl ty_size_27_5 rfl rfl rfl o5 k3 rfl (nB rfl) rfl) rfl ?_
         rintro _ W309 ⟨k311, o310⟩
         clear k3
         replace hB := o310.below hB l6
         refine Pu rfl (Pu rfl (Ni (hK308 ?_)))
         exact WC.ret fun a_ ha_ => hQ (cv_ret3 rfl (.agg rfl ty_agg_27_5 k311.range rfl) (.tmp rfl) (.tmp rfl) (.inr ⟨4, rfl, by decide, (by rw [← hkb]; exact (valB_l htq).trans (nest_12 (by omega) hd))⟩) hB ha_)
        ·
         replace c307 := dF c307
         refine WC.skip (hK20 (Sq fun K312 hK312 => (Rg (Va (dx_build rfl rfl (built_of_O (cs := [.int .i64 5, .int .i64 0, .string ⟨#[]⟩, .slice none 0 0, .slice none 0 0]) (by kernel_rfl) (oC rfl oc_nil))) rfl rfl ?_))))
         refine Ge (dx_alloc rfl ty_zero_27 rfl) rfl rfl ?_
         rintro _ W313 ⟨rfl, k314, b315, z316⟩
         have n317 : w.heap.size ≠ W115.heap.size := Nat.ne_of_lt k3.lt
         have n318 : W9.heap.size ≠ W115.heap.size := Nat.ne_of_lt k19.lt
         have l319 := hB.size
         replace k3 := k3.below b315
         replace k19 := k19.below b315
         replace hB := below_then hB b315
         replace hL := LL.more hL z316
         refine WL.do (dx_store (cs' := [.int .i64 5, .int .i64 0, .string ⟨#[]⟩, .slice none 0 0, .slice none 0 0]) (vs := [.int .i64 5, .int .i64 0, .string ⟨#[]⟩, .slice none 0 0, .slice none 0 0]) rfl ty_size_27_5 rfl rfl rfl o5 k314 rfl (nB rfl) rfl) rfl ?_
         rintro _ W320 ⟨k322, o321⟩
         replace k3 := k3.other o321 n317
         replace k19 := k19.other o321 n318
         clear k314
         replace hB := o321.below hB l319
         replace hL := LL.only hL o321
         refine Pu rfl (Ni (hK312 (Sq fun K323 hK323 => (Sq fun K324 hK324 => (Rg (Pu rfl (Pu rfl ?_)))))))
         refine Va (dx_at kb rfl Tryz.underlying9 rfl rfl (by omega) (by omega)) rfl rfl (Va (dx_eql rfl rfl rfl) rfl rfl (Ni (hK324 ?_)))
         refine WC.cond rfl (fun c325 => ?_) (fun c325 => ?_)
         ·
          replace c325 := dT c325
          exfalso; omega
         ·
          replace c325 := dF c325
          refine WC.skip (hK323 (Sq fun K326 hK326 => ?_))
          have hP : valB s dp (listS s vs kb) (objS s vs kb) kb = listS s vs kb := (valB_l htq).trans (nest_lt (by omega))
          refine Rg (Pu rfl (Pu rfl (Va (dx_add (r := ((kb + 1 : Nat) : Int)) rfl rfl rfl (by rw [wrap64_id (by omega)]; omega)) rfl rfl ?_)))
          refine Ge (dx_cv rfl Tryz.func21 rfl rfl rfl (refBlank_e s (kb + 1) W320 _ hL hs (by omega))) rfl rfl ?_
          rintro _ W328 ⟨⟨kc, rfl, hkc, hkc1, hkc2⟩, b327⟩
          replace k3 := k3.below b327
          replace k19 := k19.below b327
          replace k322 := k322.below b327
          replace hB := below_then hB b327
          replace hL := LL.below hL b327
          refine Pu rfl (Ni (hK326 (Sq fun K329 hK329 => (Sq fun K330 hK330 => ?_))))
          have hJ27 : ∀ (b_ : Bool) (f_ : Fl), b_ = takeS s kc 93 → Sub [(0, .string s), (1, .int .i64 (kc : Int)), (2, .int .i64 (dp : Int)), (6, .pointer (some ⟨w.heap.size, 0, none⟩)), (7, .int .i64 0), (8, .int .i64 0), (9, .pointer (some ⟨W9.heap.size, 0, none⟩)), (15, .pointer (some ⟨W115.heap.size, 0, none⟩)), (16, .int .u8 93), (139, .bool b_)] f_ → ∀ a, Fr 226 a f_ → K330 a W328 := by
           intro b_ f_ hb_27 hs_
           refine hK330 (WC.sub hs_ ?_)
           refine WC.cond rfl (fun c331 => ?_) (fun c331 => ?_)
           ·
            refine Sq fun K332 hK332 => ?_
            have hz := (take_t (hb_27.symm.trans (by assumption))).1
            refine Rg (Va (dx_loadN rfl ty_agg_27_5 rfl k322.range rfl) rfl rfl (Pu rfl (Va (dx_add (r := ((kc + 1 : Nat) : Int)) rfl rfl rfl (by rw [wrap64_id (by omega)]; omega)) rfl rfl ?_)))
            refine WL.do (dx_store (cs' := [.int .i64 5, .int .i64 0, .string ⟨#[]⟩, .slice none 0 0, .slice none 0 0]) (vs := [.int .i64 5, .int .i64 0, .string ⟨#[]⟩, .slice none 0 0, .slice none 0 0]) rfl ty_size_27_5 rfl rfl rfl o5 k3 rfl (nB rfl) rfl) rfl ?_
            rintro _ W333 ⟨k335, o334⟩
            clear k3
            replace hB := o334.below hB l6
            refine Pu rfl (Pu rfl (Ni (hK332 ?_)))
            exact WC.ret fun a_ ha_ => hQ (cv_ret3 rfl (.agg rfl ty_agg_27_5 k335.range rfl) (.tmp rfl) (.tmp rfl) (.inl ⟨tNil 5, kc + 1, rfl, (by rw [← hkb]; exact hP.trans ((listS_k (memS_0 rfl hkc (hb_27.symm.trans (by first | assumption | exact Bool.eq_false_iff.2 (by assumption))) rfl)).trans (by rw [tNil_er]))), tNil_rd _ _ _ _, by omega, by omega⟩) hB ha_)
           ·
            replace c331 := bvar_f c331
            refine WC.skip (hK329 (WC.block ?_))
            have hm0 : memS s (oneL vs) 93 kb [] = memL s (oneL vs) 93 (s.size + 1) kc [] := memS_1 rfl hkc (hb_27.symm.trans (by first | assumption | exact Bool.eq_false_iff.2 (by assumption)))
            obtain ⟨b0, hb0⟩ : ∃ b, b = W328.heap.size := ⟨_, rfl⟩
            have hb0L : ∀ y ∈ (W115.heap.size :: W9.heap.size :: w.heap.size :: L), y < b0 := by rw [hb0]; exact hL
            have hb0w : w.heap.size ≤ b0 := by rw [hb0]; exact hB.size
            have hm : ItemsI (n + 1) b0 (W115.heap.size :: W9.heap.size :: w.heap.size :: L) (.slice none 0 0) [] W328 := ⟨hb0L, .inl ⟨rfl, rfl⟩⟩
            have hag : AgL W328 (W115.heap.size :: W9.heap.size :: w.heap.size :: L) (W115.heap.size :: W9.heap.size :: w.heap.size :: L) W328 := ⟨fun _ h _ => h, ⟨Nat.le_refl _, fun _ _ _ => rfl⟩⟩
            refine WC.loop3 (fun (kl : Nat) (iv : Value) (ts : List Tr) => [(0, .string s), (2, .int .i64 (dp : Int)), (6, .pointer (some ⟨w.heap.size, 0, none⟩)), (9, .pointer (some ⟨W9.heap.size, 0, none⟩)), (15, .pointer (some ⟨W115.heap.size, 0, none⟩)), (16, .int .u8 93), (1, .int .i64 (kl : Int))]) (fun (kl : Nat) (iv : Value) (ts : List Tr) W => kl ≤ s.size ∧ kb < kl ∧ ts.length ≤ kl ∧ (∃ n_, s.size - kl < n_ ∧ memS s (oneL vs) 93 kb [] = memL s (oneL vs) 93 n_ kl (ts.map Tr.er)) ∧ Below w.heap.size w W ∧ LL (W115.heap.size :: W9.heap.size :: w.heap.size :: L) W ∧ ItemsI (n + 1) b0 (W115.heap.size :: W9.heap.size :: w.heap.size :: L) iv ts W ∧ AgL W328 (W115.heap.size :: W9.heap.size :: w.heap.size :: L) (W115.heap.size :: W9.heap.size :: w.heap.size :: L) W ∧ Blk W w.heap.size [.int .i64 0, .int .i64 0, .string ⟨#[]⟩, .slice none 0 0, .slice none 0 0] ∧ Blk W W9.heap.size [.int .i64 0, .int .i64 0, .string ⟨#[]⟩, .slice none 0 0, .slice none 0 0] ∧ Blk W W115.heap.size [.int .i64 5, .int .i64 0, .string ⟨#[]⟩, .slice none 0 0, iv]) (fun (kl : Nat) (iv : Value) (ts : List Tr) => s.size - kl) kc (.slice none 0 0) [] (by repeat first | exact trivial | refine aR ?_ | refine aI (by omega) ?_) ⟨(by omega), (by omega), (Nat.zero_le _), ⟨s.size + 1, by omega, hm0⟩, hB, hL, hm, hag, k3, k19, k322⟩ ?_
            clear hm hag k3 k19 k322 hB hL
            rintro K336 kl iv ts W337 ⟨hkl, hkk, htl, hv, hB, hL, hm, hag, k3, k19, k322⟩ hK336
            refine WC.block (Sq fun K338 hK338 => ?_)
            obtain ⟨n_, hn1, hv⟩ := hv
            obtain ⟨n_, rfl⟩ : ∃ m, n_ = m + 1 := ⟨n_ - 1, by omega⟩
            refine Rg (Pu rfl (Ni (hK338 (Sq fun K339 hK339 => (Sq fun K340 hK340 => (Rg (Va (dx_fld (o1 := 0) rfl ty_fld_27_0_0 rfl rfl) rfl rfl ?_)))))))
            refine Va (dx_load rfl ty_one_3 rfl (k322.cell (k := 0) rfl)) rfl rfl (Va (dx_eql rfl rfl rfl) rfl rfl (Ni (hK340 (WC.condF rfl (WC.skip (hK339 (Sq fun K341 hK341 => ?_)))))))
            obtain ⟨-, hm⟩ := hm
            rcases hm with ⟨rfl, rfl⟩ | ⟨Bi, hbi, hOi, hts⟩
            ·
             refine Rg (Pu rfl (Pu rfl (Pu rfl (Va (dx_add (r := ((dp + 1 : Nat) : Int)) rfl rfl rfl (by rw [wrap64_id (by omega)]; omega)) rfl rfl ?_))))
             refine Ge (dx_cv rfl Tryz.func20 rfl rfl rfl (hc (by omega) kl W337 _ hL (by omega))) rfl rfl ?_
             rintro _ W355 ⟨(⟨x, kx, rfl, hv348, hx, hv349, hv350⟩ | ⟨ex, rfl, hv351, hv352⟩), g354⟩
             ·
              replace hag := hag.below g354
              replace k3 := k3.below g354
              replace k19 := k19.below g354
              replace k322 := k322.below g354
              replace hB := below_then hB g354
              replace hL := LL.below hL g354
              have hbl := (blankS_le (s := s) (k := kl) (by omega)).1
              refine Pu rfl (Pu rfl (Pu rfl (Pu rfl ?_)))
              refine Ge (dx_alloc rfl ty_zero_27 rfl) rfl rfl ?_
              rintro _ W357 ⟨rfl, k358, b359, z360⟩
              have n361 : w.heap.size ≠ W355.heap.size := Nat.ne_of_lt k3.lt
              have n362 : W9.heap.size ≠ W355.heap.size := Nat.ne_of_lt k19.lt
              have n363 : W115.heap.size ≠ W355.heap.size := Nat.ne_of_lt k322.lt
              have l364 := hB.size
              replace hag := hag.more b359 (Nat.le_refl _)
              replace hx := hx.more b359 (Nat.le_refl _)
              replace k3 := k3.below b359
              replace k19 := k19.below b359
              replace k322 := k322.below b359
              replace hB := below_then hB b359
              replace hL := LL.more hL z360
              refine WL.do (dx_store (cs' := [.int .i64 x.kind, .int .i64 x.num, .string x.text, x.nv, x.iv]) (vs := [.int .i64 x.kind, .int .i64 x.num, .string x.text, x.nv, x.iv]) rfl ty_size_27_5 rfl rfl rfl (oC rfl (oC rfl (oC rfl (oC (hx.1).one (oC (hx.2.1).one oc_nil))))) k358 rfl (nB rfl) rfl) rfl ?_
              rintro _ W365 ⟨k367, o366⟩
              replace k3 := k3.other o366 n361
              replace k19 := k19.other o366 n362
              replace k322 := k322.other o366 n363
              clear k358
              replace hag := hag.only o366 (.head _)
              replace hx := hx.only o366 (.head _)
              replace hB := o366.below hB l364
              replace hL := LL.only hL o366
              refine Pu rfl (Pu rfl (Ni (hK341 (Sq fun K368 hK368 => (Sq fun K369 hK369 => (Rg (Pu rfl ?_)))))))
              refine Va (dx_neq rfl rfl rfl) rfl rfl (Ni (hK369 (WC.condF rfl (WC.skip (hK368 (Sq fun K370 hK370 => (Sq fun K371 hK371 => ?_)))))))
              refine Rg (Va (dx_fld (o1 := 0) rfl ty_fld_27_0_0 rfl rfl) rfl rfl (Va (dx_load rfl ty_one_3 rfl (k322.cell (k := 0) rfl)) rfl rfl (Va (dx_eql rfl rfl rfl) rfl rfl (Ni (hK371 (WC.condF rfl (Rg ?_)))))))
              refine Va (dx_fld (o1 := 4) rfl ty_fld_27_4_4 rfl rfl) rfl rfl (Va (dx_load rfl ty_one_25 rfl (k322.cell (k := 4) rfl)) rfl rfl (Va (dx_loadN rfl ty_agg_27_5 rfl k367.range rfl) rfl rfl ?_))
              refine Ge (dx_lit1 (r := [.int .i64 x.kind, .int .i64 x.num, .string x.text, x.nv, x.iv]) rfl ty_ap_25 (by decide) (by decide) rfl rfl rfl) rfl rfl ?_
              rintro u376 W372 ⟨k373, b374, z375⟩
              have l381 := hB.size
              replace hag := hag.more b374 (Nat.le_refl _)
              replace hx := hx.more b374 (Nat.le_refl _)
              replace k3 := k3.below b374
              replace k19 := k19.below b374
              replace k322 := k322.below b374
              replace hB := below_then hB b374
              replace hL := LL.more hL z375
              refine Ge (dx_apF (rs := []) (news := [encT x]) rfl ty_ap_25 rfl rfl (RdF.nil (L := []) (by decide)) (k373.rd (L := []) (by simp)) (by simp) (by simp [maxLen]) (by simp)) rfl rfl ?_
              rintro u382 W383 ⟨k384, b385, z386⟩
              have q389 := hag.2.1
              have l390 : b0 ≤ W372.heap.size := by omega
              have n393 : W115.heap.size ≠ W372.heap.size := Nat.ne_of_lt k322.lt
              have l396 := hB.size
              replace hag := hag.more b385 (Nat.le_refl _)
              replace hx := hx.more b385 (Nat.le_refl _)
              replace k3 := k3.below b385
              replace k19 := k19.below b385
              replace k322 := k322.below b385
              replace hB := below_then hB b385
              replace hL := LL.more hL z386
              refine Va (dx_fld (o1 := 4) rfl ty_fld_27_4_4 rfl rfl) rfl rfl ?_
              refine WL.do (dx_store (cs' := [.int .i64 5, .int .i64 0, .string ⟨#[]⟩, .slice none 0 0, u382]) (vs := [u382]) rfl ty_size_25_1 rfl rfl (oc_one k384.one) (oC k384.one oc_nil) k322 rfl (nB rfl) rfl) rfl ?_
              rintro _ W397 ⟨k399, o398⟩
              replace k3 := k3.other o398 n317
              replace k19 := k19.other o398 n318
              replace k384 := k384.other o398 n393.symm
              clear k322
              replace hag := hag.only o398 (.tail _ (.tail _ (.tail _ (.head _))))
              replace hx := hx.only o398 (.tail _ (.tail _ (.tail _ (.head _))))
              replace hB := o398.below hB l319
              replace hL := LL.only hL o398
              refine Ni (hK370 (Sq fun K400 hK400 => ?_))
              have hts2 : RdTs (n + 1) (W372.heap.size :: W115.heap.size :: W9.heap.size :: w.heap.size :: L) W397 [x] := fun c hc_ => by rw [List.mem_singleton.1 hc_]; exact hx.less (fun y hy => by simp only [List.mem_cons] at hy ⊢; rcases hy with h_ | h_ <;> simp [h_])
              have hm2 : ItemsI (n + 1) b0 (W115.heap.size :: W9.heap.size :: w.heap.size :: L) u382 [x] W397 := ⟨hb0L, .inr ⟨W372.heap.size, by omega, k384, hts2⟩⟩
              replace hag : AgL W328 (W115.heap.size :: W9.heap.size :: w.heap.size :: L) (W115.heap.size :: W9.heap.size :: w.heap.size :: L) W397 := ⟨fun _ h _ => h, hag.2⟩
              replace hL := hL.less (fun y hy => (.tail _ (.tail _ (.tail _ hy))))
              refine Rg (Pu rfl (Pu rfl ?_))
              refine Ge (dx_cv rfl Tryz.func21 rfl rfl rfl (refBlank_e s kx W397 _ hL hs (by omega))) rfl rfl ?_
              rintro _ W402 ⟨⟨kg, rfl, hkg, hkg1, hkg2⟩, b401⟩
              replace hag := hag.below b401
              replace hm2 := hm2.below b401
              replace k3 := k3.below b401
              replace k19 := k19.below b401
              replace k399 := k399.below b401
              replace hB := below_then hB b401
              replace hL := LL.below hL b401
              refine Pu rfl (Ni (hK400 (Sq fun K403 hK403 => (Sq fun K404 hK404 => ?_))))
              have hJ49 : ∀ (b_ : Bool) (f_ : Fl), b_ = takeS s kg 93 → Sub [(0, .string s), (2, .int .i64 (dp : Int)), (6, .pointer (some ⟨w.heap.size, 0, none⟩)), (9, .pointer (some ⟨W9.heap.size, 0, none⟩)), (15, .pointer (some ⟨W115.heap.size, 0, none⟩)), (16, .int .u8 93), (1, .int .i64 (kg : Int)), (17, .string ({ data := #[] })), (22, .pointer (some ⟨W355.heap.size, 0, none⟩)), (23, .int .i64 (kx : Int)), (24, .int .i64 0), (215, .bool b_)] f_ → ∀ a, Fr 226 a f_ → K404 a W402 := by
               intro b_ f_ hb_49 hs_
               refine hK404 (WC.sub hs_ ?_)
               refine WC.cond rfl (fun c405 => ?_) (fun c405 => ?_)
               ·
                refine Sq fun K406 hK406 => ?_
                have hz := (take_t (hb_49.symm.trans (by assumption))).1
                refine Rg (Va (dx_loadN rfl ty_agg_27_5 rfl k399.range rfl) rfl rfl (Pu rfl (Va (dx_add (r := ((kg + 1 : Nat) : Int)) rfl rfl rfl (by rw [wrap64_id (by omega)]; omega)) rfl rfl ?_)))
                refine WL.do (dx_store (cs' := [.int .i64 5, .int .i64 0, .string ⟨#[]⟩, .slice none 0 0, u382]) (vs := [.int .i64 5, .int .i64 0, .string ⟨#[]⟩, .slice none 0 0, u382]) rfl ty_size_27_5 rfl rfl rfl (oC rfl (oC rfl (oC rfl (oC rfl (oC hm2.one oc_nil))))) k3 rfl (nB rfl) rfl) rfl ?_
                rintro _ W407 ⟨k409, o408⟩
                clear k3
                replace hm2 := hm2.only o408 (.tail _ (.tail _ (.head _)))
                replace hB := o408.below hB l6
                refine Pu rfl (Pu rfl (Ni (hK406 ?_)))
                exact WC.ret fun a_ ha_ => hQ (cv_ret3 rfl (.agg rfl ty_agg_27_5 k409.range rfl) (.tmp rfl) (.tmp rfl) (.inl ⟨.mk 5 0 ⟨#[]⟩ (.slice none 0 0) [] u382 [x], kg + 1, rfl, (by rw [← hkb]; exact hP.trans ((listS_k (hv.trans (memL_0 rfl (oneL_k hv348) hkg (hb_49.symm.trans (by first | assumption | exact Bool.eq_false_iff.2 (by assumption))) rfl))).trans (by rw [Tr.er_mk]; rfl))), hm2.tree (fun y hy => (.tail _ (.tail _ (.tail _ hy)))) 5 0 ⟨#[]⟩, by omega, by omega⟩) hB ha_)
               ·
                replace c405 := bvar_f c405
                refine WC.skip (hK403 (Sq fun K410 hK410 => (Sq fun K411 hK411 => (Rg (Pu rfl (Pu rfl ?_))))))
                refine Ge (dx_cv rfl Tryz.func40 rfl rfl rfl (refBegins_v s ({ data := #[44] }) kg W402 _ hL hs (by omega) (by decide))) rfl rfl ?_
                rintro _ W413 ⟨rfl, b412⟩
                replace hag := hag.below b412
                replace hm2 := hm2.below b412
                replace k3 := k3.below b412
                replace k19 := k19.below b412
                replace k399 := k399.below b412
                replace hB := below_then hB b412
                replace hL := LL.below hL b412
                refine Va (dx_not rfl rfl) rfl rfl (Ni (hK411 ?_))
                refine WC.cond rfl (fun c414 => ?_) (fun c414 => ?_)
                ·
                 replace c414 := bnot_t c414
                 refine Sq fun K415 hK415 => (Rg (Va (dx_loadN rfl ty_agg_27_5 rfl k19.range rfl) rfl rfl ?_))
                 refine WL.do (dx_store (cs' := zV) (vs := zV) rfl ty_size_27_5 rfl rfl rfl o5 k3 rfl (nB rfl) rfl) rfl ?_
                 rintro _ W416 ⟨k418, o417⟩
                 clear k3
                 replace hB := o417.below hB l6
                 refine Pu rfl (Pu rfl (Ni (hK415 ?_)))
                 exact WC.ret fun a_ ha_ => hQ (cv_ret3 rfl (.agg rfl ty_agg_27_5 k418.range rfl) (.tmp rfl) (.tmp rfl) (.inr ⟨2, rfl, (by decide), (by rw [← hkb]; exact hP.trans (listS_x (hv.trans (memL_x rfl (oneL_k hv348) hkg (hb_49.symm.trans (by first | assumption | exact Bool.eq_false_iff.2 (by assumption))) (begin_f (by decide) rfl (by assumption))))))⟩) hB ha_)
                ·
                 replace c414 := bnot_f c414
                 refine WC.skip (hK410 ?_)
                 have hz := (take_t (begin_t (c := 44) (wd := ⟨#[44]⟩) (by decide) rfl (by assumption))).1
                 refine Rg (Pu rfl (Va (dx_add (r := ((kg + 1 : Nat) : Int)) rfl rfl rfl (by rw [wrap64_id (by omega)]; omega)) rfl rfl (Pu rfl (Ni ?_))))
                 exact hK336 (kg + 1) u382 [x] ⟨(by omega), (by omega), (by first | (simp; done) | (simp; omega)), ⟨n_, by omega, by rw [show ([x] : List Tr).map Tr.er = [] ++ [x.er] from rfl]; exact hv.trans (memL_c rfl (oneL_k hv348) hkg (hb_49.symm.trans (by first | assumption | exact Bool.eq_false_iff.2 (by assumption))) (begin_t (by decide) rfl (by assumption)) rfl)⟩, hB, hL, hm2, hag, k3, k19, k399⟩ (by omega) (by repeat first | exact trivial | refine aR ?_ | refine aI (by omega) ?_)
              refine Rg (Pu rfl (Pu rfl (Va (dx_lenT rfl Tryz.underlying9 rfl) rfl rfl (Va (dx_lss rfl rfl rfl) rfl rfl (Pu rfl ?_)))))
              refine WL.split 209 rfl (fun g419 => ?_) (fun g419 => ?_)
              ·
               replace g419 := dT g419
               refine Pu rfl (Pu rfl (Va (dx_at kg rfl Tryz.underlying9 rfl rfl (by omega) (by omega)) rfl rfl (Pu rfl (Va (dx_eql rfl rfl rfl) rfl rfl (Pu rfl (Ni ?_))))))
               exact hJ49 (decide (atS s kg = 93)) _ (by first | exact take_n (by omega) | exact take_d (by omega)) (by repeat first | exact trivial | refine aR ?_)
              ·
               replace g419 := dF g419
               refine Of rfl (Of rfl (Of rfl (Of rfl (Of rfl (Pu rfl (Ni ?_))))))
               exact hJ49 false _ (by first | exact take_n (by omega) | exact take_d (by omega)) (by repeat first | exact trivial | refine aR ?_)
             ·
              replace k3 := k3.below g354
              replace k19 := k19.below g354
              replace hB := below_then hB g354
              refine Pu rfl (Pu rfl (Pu rfl (Pu rfl ?_)))
              refine Ge (dx_alloc rfl ty_zero_27 rfl) rfl rfl ?_
              rintro _ W420 ⟨rfl, k421, b422, z423⟩
              have n424 : w.heap.size ≠ W355.heap.size := Nat.ne_of_lt k3.lt
              have n425 : W9.heap.size ≠ W355.heap.size := Nat.ne_of_lt k19.lt
              have l427 := hB.size
              replace k3 := k3.below b422
              replace k19 := k19.below b422
              replace hB := below_then hB b422
              refine WL.do (dx_store (cs' := zV) (vs := zV) rfl ty_size_27_5 rfl rfl rfl o5 k421 rfl (nB rfl) rfl) rfl ?_
              rintro _ W428 ⟨k430, o429⟩
              replace k3 := k3.other o429 n424
              replace k19 := k19.other o429 n425
              clear k421
              replace hB := o429.below hB l427
              refine Pu rfl (Pu rfl (Ni (hK341 (Sq fun K431 hK431 => (Sq fun K432 hK432 => (Rg (Pu rfl ?_)))))))
              refine Va (dx_neq rfl rfl rfl) rfl rfl (Ni (hK432 ?_))
              refine WC.cond rfl (fun c433 => ?_) (fun c433 => ?_)
              ·
               replace c433 := bnot_t c433
               replace c433 := dF c433
               refine Sq fun K434 hK434 => (Rg (Va (dx_loadN rfl ty_agg_27_5 rfl k19.range rfl) rfl rfl (Pu rfl ?_)))
               refine WL.do (dx_store (cs' := zV) (vs := zV) rfl ty_size_27_5 rfl rfl rfl o5 k3 rfl (nB rfl) rfl) rfl ?_
               rintro _ W435 ⟨k437, o436⟩
               clear k3
               replace hB := o436.below hB l6
               refine Pu rfl (Pu rfl (Ni (hK434 ?_)))
               exact WC.ret fun a_ ha_ => hQ (cv_ret3 rfl (.agg rfl ty_agg_27_5 k437.range rfl) (.tmp rfl) (.tmp rfl) (.inr ⟨ex, rfl, hv351, (by rw [← hkb]; exact hP.trans (listS_x (hv.trans (memL_e rfl (oneL_x hv352)))))⟩) hB ha_)
              ·
               replace c433 := bnot_f c433
               replace c433 := dT c433
               exfalso; omega
            ·
             have n438 : Bi ≠ w.heap.size := by have := hb0L (w.heap.size) (.tail _ (.tail _ (.head _))); omega
             have n439 : Bi ≠ W9.heap.size := by have := hb0L (W9.heap.size) (.tail _ (.head _)); omega
             have n440 : Bi ≠ W115.heap.size := by have := hb0L (W115.heap.size) (.head _); omega
             have lbi : w.heap.size ≤ Bi := by omega
             replace hag := hag.add (B := Bi) (by omega)
             replace hL := LL.cons hL hOi.lt
             replace hts : RdTs (n + 1) (Bi :: W115.heap.size :: W9.heap.size :: w.heap.size :: L) W337 ts := hts
             refine Rg (Pu rfl (Pu rfl (Pu rfl (Va (dx_add (r := ((dp + 1 : Nat) : Int)) rfl rfl rfl (by rw [wrap64_id (by omega)]; omega)) rfl rfl ?_))))
             refine Ge (dx_cv rfl Tryz.func20 rfl rfl rfl (hc (by omega) kl W337 _ hL (by omega))) rfl rfl ?_
             rintro _ W454 ⟨(⟨x, kx, rfl, hv447, hx, hv448, hv449⟩ | ⟨ex, rfl, hv450, hv451⟩), g453⟩
             ·
              replace hag := hag.below g453
              replace hts := hts.below g453
              replace k3 := k3.below g453
              replace k19 := k19.below g453
              replace k322 := k322.below g453
              replace hOi := hOi.below g453
              replace hB := below_then hB g453
              replace hL := LL.below hL g453
              have hbl := (blankS_le (s := s) (k := kl) (by omega)).1
              refine Pu rfl (Pu rfl (Pu rfl (Pu rfl ?_)))
              refine Ge (dx_alloc rfl ty_zero_27 rfl) rfl rfl ?_
              rintro _ W456 ⟨rfl, k457, b458, z459⟩
              have n460 : w.heap.size ≠ W454.heap.size := Nat.ne_of_lt k3.lt
              have n461 : W9.heap.size ≠ W454.heap.size := Nat.ne_of_lt k19.lt
              have n462 : W115.heap.size ≠ W454.heap.size := Nat.ne_of_lt k322.lt
              have n463 : Bi ≠ W454.heap.size := Nat.ne_of_lt hOi.lt
              have l464 := hB.size
              replace hag := hag.more b458 (Nat.le_refl _)
              replace hts := hts.more b458 (Nat.le_refl _)
              replace hx := hx.more b458 (Nat.le_refl _)
              replace k3 := k3.below b458
              replace k19 := k19.below b458
              replace k322 := k322.below b458
              replace hOi := hOi.below b458
              replace hB := below_then hB b458
              replace hL := LL.more hL z459
              refine WL.do (dx_store (cs' := [.int .i64 x.kind, .int .i64 x.num, .string x.text, x.nv, x.iv]) (vs := [.int .i64 x.kind, .int .i64 x.num, .string x.text, x.nv, x.iv]) rfl ty_size_27_5 rfl rfl rfl (oC rfl (oC rfl (oC rfl (oC (hx.1).one (oC (hx.2.1).one oc_nil))))) k457 rfl (nB rfl) rfl) rfl ?_
              rintro _ W465 ⟨k467, o466⟩
              replace k3 := k3.other o466 n460
              replace k19 := k19.other o466 n461
              replace k322 := k322.other o466 n462
              replace hOi := hOi.other o466 n463
              clear k457
              replace hag := hag.only o466 (.head _)
              replace hts := hts.only o466 (.head _)
              replace hx := hx.only o466 (.head _)
              replace hB := o466.below hB l464
              replace hL := LL.only hL o466
              refine Pu rfl (Pu rfl (Ni (hK341 (Sq fun K468 hK468 => (Sq fun K469 hK469 => (Rg (Pu rfl ?_)))))))
              refine Va (dx_neq rfl rfl rfl) rfl rfl (Ni (hK469 (WC.condF rfl (WC.skip (hK468 (Sq fun K470 hK470 => (Sq fun K471 hK471 => ?_)))))))
              refine Rg (Va (dx_fld (o1 := 0) rfl ty_fld_27_0_0 rfl rfl) rfl rfl (Va (dx_load rfl ty_one_3 rfl (k322.cell (k := 0) rfl)) rfl rfl (Va (dx_eql rfl rfl rfl) rfl rfl (Ni (hK471 (WC.condF rfl (Rg ?_)))))))
              refine Va (dx_fld (o1 := 4) rfl ty_fld_27_4_4 rfl rfl) rfl rfl (Va (dx_load rfl ty_one_25 rfl (k322.cell (k := 4) rfl)) rfl rfl (Va (dx_loadN rfl ty_agg_27_5 rfl k467.range rfl) rfl rfl ?_))
              refine Ge (dx_lit1 (r := [.int .i64 x.kind, .int .i64 x.num, .string x.text, x.nv, x.iv]) rfl ty_ap_25 (by decide) (by decide) rfl rfl rfl) rfl rfl ?_
              rintro u476 W472 ⟨k473, b474, z475⟩
              have l482 := hB.size
              replace hag := hag.more b474 (Nat.le_refl _)
              replace hts := hts.more b474 (Nat.le_refl _)
              replace hx := hx.more b474 (Nat.le_refl _)
              replace k3 := k3.below b474
              replace k19 := k19.below b474
              replace k322 := k322.below b474
              replace hOi := hOi.below b474
              replace hB := below_then hB b474
              replace hL := LL.more hL z475
              refine Ge (dx_apO' (rs := (ts.map encT)) (news := [encT x]) rfl ty_ap_25 rfl rfl hOi (k473.rd (L := []) (by simp)) (fun r hr => by rw [List.mem_singleton.1 hr]; exact hx.oc) (by simp only [List.length_map, List.length_append, List.length_cons, List.length_nil]; unfold maxLen; omega) (by simp only [List.length_map, List.length_append, List.length_cons, List.length_nil]; omega)) rfl rfl ?_
              rintro u483 W484 ⟨B489, k485, g488⟩
              rw [show (ts.map encT) ++ [encT x] = ((ts ++ [x]).map encT) from by simp only [List.map_append, List.map_cons, List.map_nil]] at k485
              have q491 := hag.2.1
              have l492 : b0 ≤ B489 := g488.le hbi (by omega)
              have n495 : W115.heap.size ≠ B489 := k322.grow_ne g488 n440.symm
              have l490 := g488.le lbi hB.size
              replace hag := hag.grow' g488 (.tail _ (.tail _ (.head _)))
              replace hts := hts.grow' g488 (.tail _ (.tail _ (.head _)))
              replace hx := hx.grow' g488 (.tail _ (.tail _ (.head _)))
              replace k3 := k3.grow g488 n438.symm
              replace k19 := k19.grow g488 n439.symm
              replace k322 := k322.grow g488 n440.symm
              replace hB := g488.below hB lbi hB.size
              replace hL := LL.grow hL g488 k485.lt
              refine Va (dx_fld (o1 := 4) rfl ty_fld_27_4_4 rfl rfl) rfl rfl ?_
              refine WL.do (dx_store (cs' := [.int .i64 5, .int .i64 0, .string ⟨#[]⟩, .slice none 0 0, u483]) (vs := [u483]) rfl ty_size_25_1 rfl rfl (oc_one k485.one) (oC k485.one oc_nil) k322 rfl (nB rfl) rfl) rfl ?_
              rintro _ W498 ⟨k500, o499⟩
              replace k3 := k3.other o499 n317
              replace k19 := k19.other o499 n318
              replace k485 := k485.other o499 n495.symm
              clear k322
              replace hag := hag.only o499 (.tail _ (.tail _ (.tail _ (.tail _ (.head _)))))
              replace hts := hts.only o499 (.tail _ (.tail _ (.tail _ (.tail _ (.head _)))))
              replace hx := hx.only o499 (.tail _ (.tail _ (.tail _ (.tail _ (.head _)))))
              replace hB := o499.below hB l319
              replace hL := LL.only hL o499
              refine Ni (hK470 (Sq fun K501 hK501 => ?_))
              have hts2 : RdTs (n + 1) (B489 :: W115.heap.size :: W9.heap.size :: w.heap.size :: L) W498 (ts ++ [x]) := fun c hc_ => by
               rcases List.mem_append.1 hc_ with h_ | h_
               · exact (hts c h_).less (fun y hy => by simp only [List.mem_cons] at hy ⊢; rcases hy with h_ | h_ <;> simp [h_])
               · rw [List.mem_singleton.1 h_]; exact hx.less (fun y hy => by simp only [List.mem_cons] at hy ⊢; rcases hy with h_ | h_ <;> simp [h_])
              have hm2 : ItemsI (n + 1) b0 (W115.heap.size :: W9.heap.size :: w.heap.size :: L) u483 (ts ++ [x]) W498 := ⟨hb0L, .inr ⟨B489, by omega, k485, hts2⟩⟩
              replace hag : AgL W328 (W115.heap.size :: W9.heap.size :: w.heap.size :: L) (W115.heap.size :: W9.heap.size :: w.heap.size :: L) W498 := ⟨fun _ h _ => h, hag.2⟩
              replace hL := hL.less (fun y hy => (.tail _ (.tail _ (.tail _ (.tail _ hy)))))
              refine Rg (Pu rfl (Pu rfl ?_))
              refine Ge (dx_cv rfl Tryz.func21 rfl rfl rfl (refBlank_e s kx W498 _ hL hs (by omega))) rfl rfl ?_
              rintro _ W503 ⟨⟨kg, rfl, hkg, hkg1, hkg2⟩, b502⟩
              replace hag := hag.below b502
              replace hm2 := hm2.below b502
              replace k3 := k3.below b502
              replace k19 := k19.below b502
              replace k500 := k500.below b502
              replace hB := below_then hB b502
              replace hL := LL.below hL b502
              refine Pu rfl (Ni (hK501 (Sq fun K504 hK504 => (Sq fun K505 hK505 => ?_))))
              have hJ49 : ∀ (b_ : Bool) (f_ : Fl), b_ = takeS s kg 93 → Sub [(0, .string s), (2, .int .i64 (dp : Int)), (6, .pointer (some ⟨w.heap.size, 0, none⟩)), (9, .pointer (some ⟨W9.heap.size, 0, none⟩)), (15, .pointer (some ⟨W115.heap.size, 0, none⟩)), (16, .int .u8 93), (1, .int .i64 (kg : Int)), (17, .string ({ data := #[] })), (22, .pointer (some ⟨W454.heap.size, 0, none⟩)), (23, .int .i64 (kx : Int)), (24, .int .i64 0), (215, .bool b_)] f_ → ∀ a, Fr 226 a f_ → K505 a W503 := by
               intro b_ f_ hb_49 hs_
               refine hK505 (WC.sub hs_ ?_)
               refine WC.cond rfl (fun c506 => ?_) (fun c506 => ?_)
               ·
                refine Sq fun K507 hK507 => ?_
                have hz := (take_t (hb_49.symm.trans (by assumption))).1
                refine Rg (Va (dx_loadN rfl ty_agg_27_5 rfl k500.range rfl) rfl rfl (Pu rfl (Va (dx_add (r := ((kg + 1 : Nat) : Int)) rfl rfl rfl (by rw [wrap64_id (by omega)]; omega)) rfl rfl ?_)))
                refine WL.do (dx_store (cs' := [.int .i64 5, .int .i64 0, .string ⟨#[]⟩, .slice none 0 0, u483]) (vs := [.int .i64 5, .int .i64 0, .string ⟨#[]⟩, .slice none 0 0, u483]) rfl ty_size_27_5 rfl rfl rfl (oC rfl (oC rfl (oC rfl (oC rfl (oC hm2.one oc_nil))))) k3 rfl (nB rfl) rfl) rfl ?_
                rintro _ W508 ⟨k510, o509⟩
                clear k3
                replace hm2 := hm2.only o509 (.tail _ (.tail _ (.head _)))
                replace hB := o509.below hB l6
                refine Pu rfl (Pu rfl (Ni (hK507 ?_)))
                exact WC.ret fun a_ ha_ => hQ (cv_ret3 rfl (.agg rfl ty_agg_27_5 k510.range rfl) (.tmp rfl) (.tmp rfl) (.inl ⟨.mk 5 0 ⟨#[]⟩ (.slice none 0 0) [] u483 (ts ++ [x]), kg + 1, rfl, (by rw [← hkb]; exact hP.trans ((listS_k (hv.trans (memL_0 rfl (oneL_k hv447) hkg (hb_49.symm.trans (by first | assumption | exact Bool.eq_false_iff.2 (by assumption))) rfl))).trans (by rw [Tr.er_mk, List.map_append]; rfl))), hm2.tree (fun y hy => (.tail _ (.tail _ (.tail _ hy)))) 5 0 ⟨#[]⟩, by omega, by omega⟩) hB ha_)
               ·
                replace c506 := bvar_f c506
                refine WC.skip (hK504 (Sq fun K511 hK511 => (Sq fun K512 hK512 => (Rg (Pu rfl (Pu rfl ?_))))))
                refine Ge (dx_cv rfl Tryz.func40 rfl rfl rfl (refBegins_v s ({ data := #[44] }) kg W503 _ hL hs (by omega) (by decide))) rfl rfl ?_
                rintro _ W514 ⟨rfl, b513⟩
                replace hag := hag.below b513
                replace hm2 := hm2.below b513
                replace k3 := k3.below b513
                replace k19 := k19.below b513
                replace k500 := k500.below b513
                replace hB := below_then hB b513
                replace hL := LL.below hL b513
                refine Va (dx_not rfl rfl) rfl rfl (Ni (hK512 ?_))
                refine WC.cond rfl (fun c515 => ?_) (fun c515 => ?_)
                ·
                 replace c515 := bnot_t c515
                 refine Sq fun K516 hK516 => (Rg (Va (dx_loadN rfl ty_agg_27_5 rfl k19.range rfl) rfl rfl ?_))
                 refine WL.do (dx_store (cs' := zV) (vs := zV) rfl ty_size_27_5 rfl rfl rfl o5 k3 rfl (nB rfl) rfl) rfl ?_
                 rintro _ W517 ⟨k519, o518⟩
                 clear k3
                 replace hB := o518.below hB l6
                 refine Pu rfl (Pu rfl (Ni (hK516 ?_)))
                 exact WC.ret fun a_ ha_ => hQ (cv_ret3 rfl (.agg rfl ty_agg_27_5 k519.range rfl) (.tmp rfl) (.tmp rfl) (.inr ⟨2, rfl, (by decide), (by rw [← hkb]; exact hP.trans (listS_x (hv.trans (memL_x rfl (oneL_k hv447) hkg (hb_49.symm.trans (by first | assumption | exact Bool.eq_false_iff.2 (by assumption))) (begin_f (by decide) rfl (by assumption))))))⟩) hB ha_)
                ·
                 replace c515 := bnot_f c515
                 refine WC.skip (hK511 ?_)
                 have hz := (take_t (begin_t (c := 44) (wd := ⟨#[44]⟩) (by decide) rfl (by assumption))).1
                 refine Rg (Pu rfl (Va (dx_add (r := ((kg + 1 : Nat) : Int)) rfl rfl rfl (by rw [wrap64_id (by omega)]; omega)) rfl rfl (Pu rfl (Ni ?_))))
                 exact hK336 (kg + 1) u483 (ts ++ [x]) ⟨(by omega), (by omega), (by first | (simp; done) | (simp; omega)), ⟨n_, by omega, by rw [List.map_append]; exact hv.trans (memL_c rfl (oneL_k hv447) hkg (hb_49.symm.trans (by first | assumption | exact Bool.eq_false_iff.2 (by assumption))) (begin_t (by decide) rfl (by assumption)) rfl)⟩, hB, hL, hm2, hag, k3, k19, k500⟩ (by omega) (by repeat first | exact trivial | refine aR ?_ | refine aI (by omega) ?_)
              refine Rg (Pu rfl (Pu rfl (Va (dx_lenT rfl Tryz.underlying9 rfl) rfl rfl (Va (dx_lss rfl rfl rfl) rfl rfl (Pu rfl ?_)))))
              refine WL.split 209 rfl (fun g520 => ?_) (fun g520 => ?_)
              ·
               replace g520 := dT g520
               refine Pu rfl (Pu rfl (Va (dx_at kg rfl Tryz.underlying9 rfl rfl (by omega) (by omega)) rfl rfl (Pu rfl (Va (dx_eql rfl rfl rfl) rfl rfl (Pu rfl (Ni ?_))))))
               exact hJ49 (decide (atS s kg = 93)) _ (by first | exact take_n (by omega) | exact take_d (by omega)) (by repeat first | exact trivial | refine aR ?_)
              ·
               replace g520 := dF g520
               refine Of rfl (Of rfl (Of rfl (Of rfl (Of rfl (Pu rfl (Ni ?_))))))
               exact hJ49 false _ (by first | exact take_n (by omega) | exact take_d (by omega)) (by repeat first | exact trivial | refine aR ?_)
             ·
              replace k3 := k3.below g453
              replace k19 := k19.below g453
              replace hB := below_then hB g453
              refine Pu rfl (Pu rfl (Pu rfl (Pu rfl ?_)))
              refine Ge (dx_alloc rfl ty_zero_27 rfl) rfl rfl ?_
              rintro _ W521 ⟨rfl, k522, b523, z524⟩
              have n525 : w.heap.size ≠ W454.heap.size := Nat.ne_of_lt k3.lt
              have n526 : W9.heap.size ≠ W454.heap.size := Nat.ne_of_lt k19.lt
              have l529 := hB.size
              replace k3 := k3.below b523
              replace k19 := k19.below b523
              replace hB := below_then hB b523
              refine WL.do (dx_store (cs' := zV) (vs := zV) rfl ty_size_27_5 rfl rfl rfl o5 k522 rfl (nB rfl) rfl) rfl ?_
              rintro _ W530 ⟨k532, o531⟩
              replace k3 := k3.other o531 n525
              replace k19 := k19.other o531 n526
              clear k522
              replace hB := o531.below hB l529
              refine Pu rfl (Pu rfl (Ni (hK341 (Sq fun K533 hK533 => (Sq fun K534 hK534 => (Rg (Pu rfl ?_)))))))
              refine Va (dx_neq rfl rfl rfl) rfl rfl (Ni (hK534 ?_))
              refine WC.cond rfl (fun c535 => ?_) (fun c535 => ?_)
              ·
               replace c535 := bnot_t c535
               replace c535 := dF c535
               refine Sq fun K536 hK536 => (Rg (Va (dx_loadN rfl ty_agg_27_5 rfl k19.range rfl) rfl rfl (Pu rfl ?_)))
               refine WL.do (dx_store (cs' := zV) (vs := zV) rfl ty_size_27_5 rfl rfl rfl o5 k3 rfl (nB rfl) rfl) rfl ?_
               rintro _ W537 ⟨k539, o538⟩
               clear k3
               replace hB := o538.below hB l6
               refine Pu rfl (Pu rfl (Ni (hK536 ?_)))
               exact WC.ret fun a_ ha_ => hQ (cv_ret3 rfl (.agg rfl ty_agg_27_5 k539.range rfl) (.tmp rfl) (.tmp rfl) (.inr ⟨ex, rfl, hv450, (by rw [← hkb]; exact hP.trans (listS_x (hv.trans (memL_e rfl (oneL_x hv451)))))⟩) hB ha_)
              ·
               replace c535 := bnot_f c535
               replace c535 := dT c535
               exfalso; omega
          refine Rg (Pu rfl (Pu rfl (Va (dx_lenT rfl Tryz.underlying9 rfl) rfl rfl (Va (dx_lss rfl rfl rfl) rfl rfl (Pu rfl ?_)))))
          refine WL.split 133 rfl (fun g540 => ?_) (fun g540 => ?_)
          ·
           replace g540 := dT g540
           refine Pu rfl (Pu rfl (Va (dx_at kc rfl Tryz.underlying9 rfl rfl (by omega) (by omega)) rfl rfl (Pu rfl (Va (dx_eql rfl rfl rfl) rfl rfl (Pu rfl (Ni ?_))))))
           exact hJ27 (decide (atS s kc = 93)) _ (by first | exact take_n (by omega) | exact take_d (by omega)) (by repeat first | exact trivial | refine aR ?_)
          ·
           replace g540 := dF g540
           refine Of rfl (Of rfl (Of rfl (Of rfl (Of rfl (Pu rfl (Ni ?_))))))
           exact hJ27 false _ (by first | exact take_n (by omega) | exact take_d (by omega)) (by repeat first | exact trivial | refine aR ?_)
     refine Rg (Pu rfl (Pu rfl (Va (dx_lenT rfl Tryz.underlying9 rfl) rfl rfl (Va (dx_lss rfl rfl rfl) rfl rfl (Pu rfl ?_)))))
     refine WL.split 71 rfl (fun g541 => ?_) (fun g541 => ?_)
     ·
      replace g541 := dT g541
      refine Pu rfl (Pu rfl (Va (dx_at kb rfl Tryz.underlying9 rfl rfl (by omega) (by omega)) rfl rfl (Va (dx_eql rfl rfl rfl) rfl rfl (Pu rfl ?_))))
      refine WL.split 76 rfl (fun g542 => ?_) (fun g542 => ?_)
      ·
       replace g542 := dT g542
       refine Of rfl (Of rfl (Of rfl (Of rfl (Of rfl (Of rfl (Of rfl (Of rfl ?_)))))))
       refine Of rfl (Of rfl (Pu rfl (Pu rfl (Pu rfl (Ni ?_)))))
       exact hJ14 true _ (by unfold numB; first | exact (decide_eq_false (by omega)).symm | exact (decide_eq_true (by omega)).symm | (rw [decide_eq_decide]; omega)) (by repeat first | exact trivial | refine aR ?_)
      ·
       replace g542 := dF g542
       refine Pu rfl (Pu rfl (Va (dx_at kb rfl Tryz.underlying9 rfl rfl (by omega) (by omega)) rfl rfl (Va (dx_geq rfl rfl rfl) rfl rfl (Pu rfl ?_))))
       refine WL.split 81 rfl (fun g543 => ?_) (fun g543 => ?_)
       ·
        replace g543 := dT g543
        refine Pu rfl (Pu rfl (Va (dx_at kb rfl Tryz.underlying9 rfl rfl (by omega) (by omega)) rfl rfl (Va (dx_leq rfl rfl rfl) rfl rfl (Pu rfl (Pu rfl (Pu rfl (Pu rfl ?_)))))))
        refine Ni ?_
        exact hJ14 (decide (atS s kb ≤ 57)) _ (by unfold numB; first | exact (decide_eq_false (by omega)).symm | exact (decide_eq_true (by omega)).symm | (rw [decide_eq_decide]; omega)) (by repeat first | exact trivial | refine aR ?_)
       ·
        replace g543 := dF g543
        refine Of rfl (Of rfl (Of rfl (Of rfl (Pu rfl (Pu rfl (Pu rfl (Pu rfl ?_)))))))
        refine Ni ?_
        exact hJ14 false _ (by unfold numB; first | exact (decide_eq_false (by omega)).symm | exact (decide_eq_true (by omega)).symm | (rw [decide_eq_decide]; omega)) (by repeat first | exact trivial | refine aR ?_)
     ·
      replace g541 := dF g541
      refine Of rfl (Of rfl (Of rfl (Of rfl (Of rfl (Of rfl (Of rfl (Of rfl ?_)))))))
      refine Of rfl (Of rfl (Of rfl (Of rfl (Of rfl (Of rfl (Of rfl (Of rfl ?_)))))))
      refine Pu rfl (Pu rfl (Ni ?_))
      exact hJ14 false _ (by unfold numB; first | exact (decide_eq_false (by omega)).symm | exact (decide_eq_true (by omega)).symm | (rw [decide_eq_decide]; omega)) (by repeat first | exact trivial | refine aR ?_)

theorem refVal_at (s : ByteArray) (hs : s.size ≤ 1000000) : ∀ m dp, m ≤ 12 → dp + m = 12 → RefAt (m + 2) (valD s m) s dp
 | 0, dp, _, hd => fun ka w L hL hk => by
  obtain rfl : dp = 12 := by omega
  exact refVal_v 0 (fun _ => .error 4) s ka 12 w L hL hs hk (by omega) (fun h => absurd h (by omega))
 | m + 1, dp, hm, hd => fun ka w L hL hk => by
  have ih := refVal_at s hs m (dp + 1) (by omega) (by omega)
  obtain rfl : dp = 12 - (m + 1) := by omega
  exact refVal_v (m + 1) (valD s m) s ka (12 - (m + 1)) w L hL hs hk (by omega) (fun _ => ih)
set_option maxHeartbeats 1000000 in
theorem refParse_v (s : ByteArray) (w : World) (L : List Nat) (hL : LL L w)  : CV Tryz.prog 9 [.string s] w fun v W => (∃ t, v = .tuple #[.agg #[.int .i64 t.kind, .int .i64 t.num, .string t.text, t.nv, t.iv], .int .i64 0] ∧ parJ s = .ok t.er ∧ RdT 14 L W t) ∨ (∃ e, v = .tuple #[.agg #[.int .i64 0, .int .i64 0, .string ⟨#[]⟩, .slice none 0 0, .slice none 0 0], .int .i64 e] ∧ e ≠ 0 ∧ parJ s = .error e) := by
 refine cv_enter (N := 34) (f := [(0, .string s)]) Tryz.func9 rfl rfl rfl rfl fun Q hQ hE => ?_
 have hB := Below.refl w.heap.size w
 refine Sq fun K1 hK1 => (Rg ?_)
 refine Ge (dx_alloc rfl ty_zero_27 rfl) rfl rfl ?_
 rintro _ W2 ⟨rfl, k3, b4, z5⟩
 have l6 := hB.size
 replace hB := below_then hB b4
 replace hL := LL.more hL z5
 refine Pu rfl (Ni (hK1 (Sq fun K7 hK7 => (Sq fun K8 hK8 => (Rg (Pu rfl (Va (dx_lenT rfl Tryz.underlying9 rfl) rfl rfl ?_)))))))
 refine Va (dx_gtr rfl rfl rfl) rfl rfl (Ni (hK8 ?_))
 refine WC.cond rfl (fun c9 => ?_) (fun c9 => ?_)
 ·
  replace c9 := dT c9
  refine Sq fun K10 hK10 => (Rg (Va (dx_build rfl rfl (built_of_O (cs := zV) (by kernel_rfl) oc_nil)) rfl rfl ?_))
  refine WL.do (dx_store (cs' := zV) (vs := zV) rfl ty_size_27_5 rfl rfl rfl o5 k3 rfl (nB rfl) rfl) rfl ?_
  rintro _ W11 ⟨k13, o12⟩
  clear k3
  replace hB := o12.below hB l6
  refine Pu rfl (Ni (hK10 ?_))
  exact WC.ret fun a_ ha_ => hQ (cv_ret2 rfl (.agg rfl ty_agg_27_5 k13.range rfl) (.tmp rfl) (.inr ⟨3, rfl, by decide, parS_l (by omega)⟩) hB ha_)
 ·
  replace c9 := dF c9
  refine WC.skip (hK7 (Sq fun K14 hK14 => (Sq fun K15 hK15 => ?_)))
  have hs : s.size ≤ 1000000 := by omega
  refine Rg (Pu rfl ?_)
  refine Ge (dx_sb (L := w.heap.size :: L) rfl Tryz.underlying9 Tryz.underlying34 Tryz.underlying5 rfl hL (by unfold maxLen; omega)) rfl rfl ?_
  rintro u16 W17 ⟨k18, b19⟩
  replace k3 := k3.below b19
  replace hB := below_then hB b19
  replace hL := LL.below hL b19
  refine Ge (dx_cv rfl Tryz.func19 rfl rfl rfl (refUp_v s _ W17 _ hL k18 (by omega))) rfl rfl ?_
  rintro _ W21 ⟨rfl, b20⟩
  replace k3 := k3.below b20
  replace hB := below_then hB b20
  replace hL := LL.below hL b20
  refine Va (dx_not rfl rfl) rfl rfl (Ni (hK15 ?_))
  refine WC.cond rfl (fun c22 => ?_) (fun c22 => ?_)
  ·
   replace c22 := bnot_t c22
   refine Sq fun K23 hK23 => (Rg (Va (dx_build rfl rfl (built_of_O (cs := zV) (by kernel_rfl) oc_nil)) rfl rfl ?_))
   refine WL.do (dx_store (cs' := zV) (vs := zV) rfl ty_size_27_5 rfl rfl rfl o5 k3 rfl (nB rfl) rfl) rfl ?_
   rintro _ W24 ⟨k26, o25⟩
   clear k3
   replace hB := o25.below hB l6
   refine Pu rfl (Ni (hK23 ?_))
   exact WC.ret fun a_ ha_ => hQ (cv_ret2 rfl (.agg rfl ty_agg_27_5 k26.range rfl) (.tmp rfl) (.inr ⟨2, rfl, by decide, parS_u (by omega) (by assumption)⟩) hB ha_)
  ·
   replace c22 := bnot_f c22
   refine WC.skip (hK14 (Sq fun K27 hK27 => (Rg (Pu rfl ?_))))
   refine Ge (dx_cv rfl Tryz.func20 rfl rfl rfl (refVal_at s hs 12 0 (by omega) (by omega) 0 W21 _ hL (by omega))) rfl rfl ?_
   rintro _ W41 ⟨(⟨x, kx, rfl, hv34, hx, hv35, hv36⟩ | ⟨ex, rfl, hv37, hv38⟩), g40⟩
   ·
    replace k3 := k3.below g40
    replace hB := below_then hB g40
    replace hL := LL.below hL g40
    refine Pu rfl (Pu rfl (Pu rfl (Pu rfl ?_)))
    refine Ge (dx_alloc rfl ty_zero_27 rfl) rfl rfl ?_
    rintro _ W43 ⟨rfl, k44, b45, z46⟩
    have n47 : w.heap.size ≠ W41.heap.size := Nat.ne_of_lt k3.lt
    have l48 := hB.size
    replace hx := hx.more b45 (Nat.le_refl _)
    replace k3 := k3.below b45
    replace hB := below_then hB b45
    replace hL := LL.more hL z46
    refine WL.do (dx_store (cs' := [.int .i64 x.kind, .int .i64 x.num, .string x.text, x.nv, x.iv]) (vs := [.int .i64 x.kind, .int .i64 x.num, .string x.text, x.nv, x.iv]) rfl ty_size_27_5 rfl rfl rfl (oC rfl (oC rfl (oC rfl (oC (hx.1).one (oC (hx.2.1).one oc_nil))))) k44 rfl (nB rfl) rfl) rfl ?_
    rintro _ W49 ⟨k51, o50⟩
    replace k3 := k3.other o50 n47
    clear k44
    replace hx := hx.only o50 (.head _)
    replace hB := o50.below hB l48
    replace hL := LL.only hL o50
    refine Pu rfl (Pu rfl (Ni (hK27 (Sq fun K52 hK52 => (Sq fun K53 hK53 => (Rg (Pu rfl ?_)))))))
    refine Va (dx_neq rfl rfl rfl) rfl rfl (Ni (hK53 (WC.condF rfl (WC.skip (hK52 (Sq fun K54 hK54 => (Sq fun K55 hK55 => ?_)))))))
    refine Rg (Pu rfl (Pu rfl ?_))
    refine Ge (dx_cv rfl Tryz.func21 rfl rfl rfl (refBlank_e s kx W49 _ hL hs (by omega))) rfl rfl ?_
    rintro _ W57 ⟨⟨kc, rfl, hkc, hkc1, hkc2⟩, b56⟩
    replace hx := hx.below b56
    replace k3 := k3.below b56
    replace k51 := k51.below b56
    replace hB := below_then hB b56
    refine Pu rfl (Va (dx_lenT rfl Tryz.underlying9 rfl) rfl rfl (Va (dx_neq rfl rfl rfl) rfl rfl (Ni (hK55 ?_))))
    refine WC.cond rfl (fun c58 => ?_) (fun c58 => ?_)
    ·
     replace c58 := bnot_t c58
     replace c58 := dF c58
     refine Sq fun K59 hK59 => (Rg (Va (dx_build rfl rfl (built_of_O (cs := zV) (by kernel_rfl) oc_nil)) rfl rfl ?_))
     refine WL.do (dx_store (cs' := zV) (vs := zV) rfl ty_size_27_5 rfl rfl rfl o5 k3 rfl (nB rfl) rfl) rfl ?_
     rintro _ W60 ⟨k62, o61⟩
     clear k3
     replace hB := o61.below hB l6
     refine Pu rfl (Ni (hK59 ?_))
     exact WC.ret fun a_ ha_ => hQ (cv_ret2 rfl (.agg rfl ty_agg_27_5 k62.range rfl) (.tmp rfl) (.inr ⟨2, rfl, by decide, parS_f (by omega) (by assumption) rfl rfl hv34 hkc (by omega)⟩) hB ha_)
    ·
     replace c58 := bnot_f c58
     replace c58 := dT c58
     refine WC.skip (hK54 (Sq fun K63 hK63 => (Rg (Va (dx_loadN rfl ty_agg_27_5 rfl k51.range rfl) rfl rfl ?_))))
     refine WL.do (dx_store (cs' := [.int .i64 x.kind, .int .i64 x.num, .string x.text, x.nv, x.iv]) (vs := [.int .i64 x.kind, .int .i64 x.num, .string x.text, x.nv, x.iv]) rfl ty_size_27_5 rfl rfl rfl (oC rfl (oC rfl (oC rfl (oC (hx.1).one (oC (hx.2.1).one oc_nil))))) k3 rfl (nB rfl) rfl) rfl ?_
     rintro _ W64 ⟨k66, o65⟩
     clear k3
     replace hx := hx.only o65 (.tail _ (.head _))
     replace hB := o65.below hB l6
     refine Pu rfl (Ni (hK63 ?_))
     exact WC.ret fun a_ ha_ => hQ (cv_ret2 rfl (.agg rfl ty_agg_27_5 k66.range rfl) (.tmp rfl) (.inl ⟨x, rfl, parS_t (by omega) (by assumption) rfl rfl hv34 hkc (by omega), (hx.less (fun x hx => (.tail _ (.tail _ hx))))⟩) hB ha_)
   ·
    replace k3 := k3.below g40
    replace hB := below_then hB g40
    refine Pu rfl (Pu rfl (Pu rfl (Pu rfl ?_)))
    refine Ge (dx_alloc rfl ty_zero_27 rfl) rfl rfl ?_
    rintro _ W67 ⟨rfl, k68, b69, z70⟩
    have n71 : w.heap.size ≠ W41.heap.size := Nat.ne_of_lt k3.lt
    have l72 := hB.size
    replace k3 := k3.below b69
    replace hB := below_then hB b69
    refine WL.do (dx_store (cs' := zV) (vs := zV) rfl ty_size_27_5 rfl rfl rfl o5 k68 rfl (nB rfl) rfl) rfl ?_
    rintro _ W73 ⟨k75, o74⟩
    replace k3 := k3.other o74 n71
    clear k68
    replace hB := o74.below hB l72
    refine Pu rfl (Pu rfl (Ni (hK27 (Sq fun K76 hK76 => (Sq fun K77 hK77 => (Rg (Pu rfl ?_)))))))
    refine Va (dx_neq rfl rfl rfl) rfl rfl (Ni (hK77 ?_))
    refine WC.cond rfl (fun c78 => ?_) (fun c78 => ?_)
    ·
     replace c78 := bnot_t c78
     replace c78 := dF c78
     refine Sq fun K79 hK79 => (Rg (Va (dx_build rfl rfl (built_of_O (cs := zV) (by kernel_rfl) oc_nil)) rfl rfl (Pu rfl ?_)))
     refine WL.do (dx_store (cs' := zV) (vs := zV) rfl ty_size_27_5 rfl rfl rfl o5 k3 rfl (nB rfl) rfl) rfl ?_
     rintro _ W80 ⟨k82, o81⟩
     clear k3
     replace hB := o81.below hB l6
     refine Pu rfl (Ni (hK79 ?_))
     exact WC.ret fun a_ ha_ => hQ (cv_ret2 rfl (.agg rfl ty_agg_27_5 k82.range rfl) (.tmp rfl) (.inr ⟨ex, rfl, hv37, parS_e (by omega) (by assumption) rfl rfl hv38⟩) hB ha_)
    ·
     replace c78 := bnot_f c78
     replace c78 := dT c78
     exfalso; omega

def RJ (n : Nat) (j : Js) : Prop := rightJ upB n j = true ∧ SzJ 1000000 (n + 1) j
theorem leaf_rj {n : Nat} {j : Js} (h : leafJ upB j = true) (hz : j.text.size ≤ 1000000) : RJ n j := by
 have h0 := h
 unfold leafJ at h0
 rw [Bool.and_eq_true, Bool.and_eq_true, decide_eq_true_eq, decide_eq_true_eq] at h0
 obtain ⟨⟨h1, h2⟩, _⟩ := h0
 refine ⟨?_, hz, by rw [h1]; decide, by rw [h2]; decide, by rw [h1]; exact (fun s hs => by cases hs), by rw [h2]; exact (fun c hc => by cases hc)⟩
 cases n with
 | zero => rw [rightJ]; exact h
 | succ n => rw [rightJ, h]; rfl
section
variable {σ : Type} {s : ByteArray} {one : Nat → σ → Except Int (σ × Nat)} {la : Int} {I : Nat → σ → Prop}
theorem memL_ok (hI : ∀ k k' st, I k st → k ≤ k' → I k' st) (h1 : ∀ k st st' k', k ≤ s.size → I k st → one k st = .ok (st', k') → I k' st' ∧ k < k' ∧ k' ≤ s.size) : ∀ (n k : Nat) (st st' : σ) (k' : Nat), k ≤ s.size → I k st → memL s one la n k st = .ok (st', k') → I k' st' ∧ k < k' ∧ k' ≤ s.size
  | 0, _, _, _, _, _, _, h => by rw [memL] at h; cases h
  | n + 1, k, st, st', k', hk, hi, h => by
    rw [memL] at h
    have hb := blankS_le hk
    split at h
    · cases h
    · rename_i st1 k2 ho
      obtain ⟨a, b, c⟩ := h1 _ _ _ _ hb.2 (hI _ _ _ hi hb.1) ho
      have hb2 := blankS_le c
      split at h
      · rename_i hq
        have hq := take_t hq
        cases h
        exact ⟨hI _ _ _ a (by omega), by omega, by omega⟩
      · split at h
        · rename_i hq
          have hq := take_t hq
          obtain ⟨p, q, r⟩ := memL_ok hI h1 n _ _ _ _ (by omega) (hI _ _ _ a (show k2 ≤ blankS s k2 + 1 by omega)) h
          exact ⟨p, by omega, r⟩
        · cases h
theorem memS_ok (hI : ∀ k k' st, I k st → k ≤ k' → I k' st) (h1 : ∀ k st st' k', k ≤ s.size → I k st → one k st = .ok (st', k') → I k' st' ∧ k < k' ∧ k' ≤ s.size) {k k' : Nat} {st st' : σ} (hk : k < s.size) (hi : I k st) (h : memS s one la k st = .ok (st', k')) : I k' st' ∧ k < k' ∧ k' ≤ s.size := by
  unfold memS at h
  have hb := blankS_le (s := s) (k := k + 1) (by omega)
  split at h
  · rename_i hq
    have hq := take_t hq
    cases h
    exact ⟨hI _ _ _ hi (by omega), by omega, by omega⟩
  · obtain ⟨p, q, r⟩ := memL_ok hI h1 _ _ _ _ _ hb.2 (hI _ _ _ hi (by omega)) h
    exact ⟨p, by omega, r⟩
end
def VOk (s : ByteArray) (n : Nat) (vs : Nat → Except Int (Js × Nat)) : Prop := ∀ k j k', k ≤ s.size → vs k = .ok (j, k') → RJ n j ∧ k < k' ∧ k' ≤ s.size
theorem list_ok {s : ByteArray} {n : Nat} {vs : Nat → Except Int (Js × Nat)} (hs : s.size ≤ 1000000) (hv : VOk s n vs) {k k' : Nat} {j : Js} (hk : k < s.size) (h : listS s vs k = .ok (j, k')) : RJ (n + 1) j ∧ k < k' ∧ k' ≤ s.size := by
  unfold listS at h
  split at h
  · cases h
  · rename_i ts k2 hm
    cases h
    obtain ⟨⟨a, b⟩, c, d⟩ := memS_ok (I := fun k (ts : List Js) => ts.length ≤ k ∧ ∀ t ∈ ts, RJ n t) (fun _ _ _ h1 h2 => ⟨Nat.le_trans h1.1 h2, h1.2⟩) (fun q st st' q' hq hi ho => by
      unfold oneL at ho
      split at ho
      · cases ho
      · rename_i t q2 hv2
        cases ho
        obtain ⟨e1, e2, e3⟩ := hv _ _ _ hq hv2
        refine ⟨⟨by rw [List.length_append, List.length_singleton]; omega, fun x hx => ?_⟩, e2, e3⟩
        rcases List.mem_append.1 hx with hx | hx
        · exact hi.2 x hx
        · rw [List.mem_singleton.1 hx]; exact e1) hk ⟨Nat.zero_le _, fun t ht => by cases ht⟩ hm
    refine ⟨⟨?_, ?_⟩, c, d⟩
    · rw [rightJ, Bool.or_eq_true]
      right
      rw [Bool.and_eq_true, List.all_eq_true]
      exact ⟨rfl, fun x hx => (b x hx).1⟩
    · exact ⟨by show 0 ≤ 1000000; decide, by show 0 ≤ 1000000; decide, by show ts.length ≤ 1000000; omega, (fun s hs => by cases hs), fun x hx => (b x hx).2⟩
theorem obj_ok {s : ByteArray} {n : Nat} {vs : Nat → Except Int (Js × Nat)} (hs : s.size ≤ 1000000) (hu : OKL (sb s)) (hv : VOk s n vs) {k k' : Nat} {j : Js} (hk : k < s.size) (h : objS s vs k = .ok (j, k')) : RJ (n + 1) j ∧ k < k' ∧ k' ≤ s.size := by
  unfold objS at h
  split at h
  · cases h
  · rename_i st k2 hm
    cases h
    obtain ⟨⟨a1, a2, a3, a4, a5⟩, c, d⟩ := memS_ok (I := fun k (st : StO) => st.1.length ≤ k ∧ st.1.length = st.2.length ∧ Rises st.1 ∧ (∀ x ∈ st.1, upB x = true ∧ x.size ≤ 1000000) ∧ ∀ t ∈ st.2, RJ n t) (fun _ _ _ h1 h2 => ⟨Nat.le_trans h1.1 h2, h1.2⟩) (fun q st st' q' hq hi ho => by
      unfold pairS at ho
      split at ho
      · rename_i hq34
        split at ho
        · cases ho
        · rename_i l q1 hqu
          obtain ⟨o1, o2, o3, o4⟩ := quo_ok hu hq34 hqu
          unfold pairN at ho
          split at ho
          · cases ho
          · rename_i hnn
            have hb := blankS_le o4
            split at ho
            · rename_i hco
              have hco := take_t hco
              have hb2 := blankS_le (s := s) (k := blankS s q1 + 1) (by omega)
              split at ho
              · cases ho
              · rename_i t q2 hv2
                cases ho
                obtain ⟨e1, e2, e3⟩ := hv _ _ _ hb2.2 hv2
                obtain ⟨i1, i2, i3, i4, i5⟩ := hi
                have hle := lbT_le (strOfNums l) st.1
                refine ⟨⟨by rw [insA_len hle]; omega, by rw [insA_len hle, insA_len (by rw [← i2]; exact hle), i2], rises_ins i3 hnn, fun x hx => ?_, fun x hx => ?_⟩, by omega, e3⟩
                · rcases mem_insA.1 hx with rfl | hx
                  · exact ⟨up_of_ok o1, by rw [strOfNums_size]; omega⟩
                  · exact i4 x hx
                · rcases mem_insA.1 hx with rfl | hx
                  · exact e1
                  · exact i5 x hx
            · cases ho
      · cases ho) hk ⟨Nat.zero_le _, rfl, List.Pairwise.nil, (fun x hx => by cases hx), (fun t ht => by cases ht)⟩ hm
    refine ⟨⟨mk_right a2 a3 (fun x hx => (a4 x hx).1) (fun x hx => (a5 x hx).1), ?_⟩, c, d⟩
    exact ⟨by show 0 ≤ 1000000; decide, by show st.1.length ≤ 1000000; omega, by show st.2.length ≤ 1000000; omega, fun x hx => (a4 x hx).2, fun x hx => (a5 x hx).2⟩
theorem valB_ok {s : ByteArray} {n dp : Nat} {rl ro : Except Int (Js × Nat)} (hs : s.size ≤ 1000000) (hu : OKL (sb s)) {k k' : Nat} {j : Js} (hl : k < s.size → nestS dp rl = .ok (j, k') → RJ n j ∧ k < k' ∧ k' ≤ s.size) (ho : k < s.size → nestS dp ro = .ok (j, k') → RJ n j ∧ k < k' ∧ k' ≤ s.size) (h : valB s dp rl ro k = .ok (j, k')) : RJ n j ∧ k < k' ∧ k' ≤ s.size := by
  unfold valB at h
  have hw : ∀ (wd : ByteArray) (kd : Int), 1 ≤ wd.size → kd = 0 ∨ kd = 1 ∨ kd = 2 → wordR s wd kd k = .ok (j, k') → k < s.size → RJ n j ∧ k < k' ∧ k' ≤ s.size := fun wd kd h1 h2 h3 hk => by
    unfold wordR at h3
    split at h3
    · rename_i hw
      cases h3
      have hb := begin_sz ((begin_word (by omega)).trans hw) rfl
      refine ⟨leaf_rj ?_ (by show 0 ≤ 1000000; decide), by omega, hb⟩
      rcases h2 with rfl | rfl | rfl <;> rfl
    · cases h3
  split at h
  · rename_i hk
    split at h
    · exact hw _ _ (by decide) (.inl rfl) h hk
    · split at h
      · exact hw _ _ (by decide) (.inr (.inl rfl)) h hk
      · split at h
        · exact hw _ _ (by decide) (.inr (.inr rfl)) h hk
        · split at h
          · unfold numR at h
            split at h
            · cases h
            · rename_i m q hm
              cases h
              have hr := numS_in hm
              have hp : k < k' ∧ k' ≤ s.size := by
                unfold numS at hm
                split at hm
                · have := numT_ok (by omega) hm; omega
                · exact numT_ok (by omega) hm
              refine ⟨leaf_rj ?_ (by show 0 ≤ 1000000; decide), hp.1, hp.2⟩
              unfold leafJ leafS
              simp only [Js.names, Js.items, Js.kind, Js.text, Js.num]
              simp [hr.1, hr.2]
          · split at h
            · rename_i hq
              unfold quoR at h
              split at h
              · cases h
              · rename_i l q hq2
                cases h
                obtain ⟨o1, o2, o3, o4⟩ := quo_ok hu (take_of hk hq.symm) hq2
                refine ⟨leaf_rj ?_ (by show (strOfNums l).size ≤ 1000000; rw [strOfNums_size]; omega), o3, o4⟩
                unfold leafJ leafS
                simp only [Js.names, Js.items, Js.kind, Js.text, Js.num]
                simp [up_of_ok o1]
            · split at h
              · exact hl hk h
              · split at h
                · exact ho hk h
                · cases h
  · cases h
theorem valD_ok {s : ByteArray} (hs : s.size ≤ 1000000) (hu : OKL (sb s)) : ∀ m, m ≤ 12 → VOk s m (valD s m)
 | 0, _ => fun k j k' hk h => valB_ok hs hu (fun _ h => by cases h) (fun _ h => by cases h) h
 | m + 1, hm => fun k j k' hk h => by
  have ih := valD_ok hs hu m (by omega)
  have e : ∀ r : Except Int (Js × Nat), nestS (12 - (m + 1)) r = r := fun r => nest_lt (by omega)
  exact valB_ok hs hu (fun hk h => by rw [e] at h; exact list_ok hs ih hk h) (fun hk h => by rw [e] at h; exact obj_ok hs hu ih hk h) h
theorem par_ok {s : ByteArray} {j : Js} (h : parJ s = .ok j) : RJ 12 j := by
  unfold parJ parS at h
  split at h
  · cases h
  · rename_i hsz
    split at h
    · cases h
    · rename_i hu
      split at h
      · cases h
      · rename_i j2 k hv
        have := valD_ok (by omega) (ok_of_up (by simpa using hu)) 12 (Nat.le_refl _) _ _ _ (blankS_le (Nat.zero_le _)).2 hv
        split at h
        · cases h; exact this.1
        · cases h

theorem node_of {m : Nat} {t : Tr} (h : rightJ upB m t.er = true) (hk : t.kind = 5 ∨ t.kind = 6) : ∃ q, m = q + 1 ∧ (∀ c ∈ t.items, rightJ upB q c.er = true) ∧ (t.kind = 6 → t.names.length = t.items.length) := by
  have hk' : t.er.kind = 5 ∨ t.er.kind = 6 := by rw [er_kind]; exact hk
  cases m with
  | zero => rw [rightJ] at h; exact absurd hk' (leaf_kind h)
  | succ q =>
    rw [rightJ, Bool.or_eq_true] at h
    rcases h with h | h
    · exact absurd hk' (leaf_kind h)
    · rw [Bool.and_eq_true, List.all_eq_true] at h
      refine ⟨q, rfl, fun c hc => h.2 c.er (by rw [er_items]; exact List.mem_map.2 ⟨c, hc, rfl⟩), fun h6 => ?_⟩
      obtain ⟨_, _, ⟨e, _⟩ | ⟨_, e, _⟩⟩ := node_cases h.1
      · rw [er_kind] at e; omega
      · rw [er_names, er_items, List.length_map] at e; exact e
theorem leaf_of {m : Nat} {t : Tr} (h : rightJ upB m t.er = true) (hk : ¬ t.kind = 5) (hk6 : ¬ t.kind = 6) : leafJ upB t.er = true := by
  cases m with
  | zero => rw [rightJ] at h; exact h
  | succ q =>
    rw [rightJ, Bool.or_eq_true] at h
    rcases h with h | h
    · exact h
    · rw [Bool.and_eq_true] at h
      rcases node_kind h.1 with e | e <;> rw [er_kind] at e
      · exact absurd e hk
      · exact absurd e hk6
theorem num_of {m : Nat} {t : Tr} (h : rightJ upB m t.er = true) (hk : t.kind = 3) : -9007199254740991 ≤ t.num ∧ t.num ≤ 9007199254740991 := by
 obtain ⟨_, _, ⟨_, _, h1, h2⟩ | ⟨e, _⟩ | ⟨e, _⟩⟩ := leaf_cases (leaf_of h (by omega) (by omega))
 · rw [er_num] at h1 h2; exact ⟨h1, h2⟩
 · rw [er_kind] at e; omega
 · rw [er_kind] at e; omega
theorem kinds_of {m : Nat} {t : Tr} (h : rightJ upB m t.er = true) (h0 : ¬ t.kind = 0) (h1 : ¬ t.kind = 1) (h2 : ¬ t.kind = 2) (h3 : ¬ t.kind = 3) (h4 : ¬ t.kind = 4) (h5 : ¬ t.kind = 5) (h6 : ¬ t.kind = 6) : False := by
 obtain ⟨_, _, ⟨e, _⟩ | ⟨e, _⟩ | ⟨e, _⟩⟩ := leaf_cases (leaf_of h h5 h6) <;> rw [er_kind] at e <;> omega
theorem val_w {m : Nat} {t : Tr} {l b1 x : List Int} (hl : prJ m t.er = x) (hx : x.length ≤ 7000000) (e : b1 = l ++ x) : PrK 8192 (Kf m) l (prJ m t.er) b1 := by rw [hl]; exact prK_exact e (by unfold Kf; omega)
theorem pr_l {m : Nat} {t : Tr} (h5 : ¬ t.kind = 5) (h6 : ¬ t.kind = 6) : prJ m t.er = leafP t.er := pr_leaf (by rw [er_kind]; exact h5) (by rw [er_kind]; exact h6)
set_option maxHeartbeats 1000000 in
theorem pvalue_step (m : Nat) (ih : ∀ q, m = q + 1 → ValP q) (n : Nat) (t : Tr) (u : Value) (P : Nat) (l : List Int) (w w1 : World) (hB : Below w.heap.size w w1) (hst : PrS w.heap.size P l 8192 w1) (htab : tabP w) (hu : PtR [] w u (encT t)) (ht : RdT (n + 1) [] w t) (hz : SzT 1000000 (n + 1) t) (hr : rightJ upB m t.er = true) (hlen : l.length ≤ 10000000) (hm : m ≤ 12) : CB Tryz.prog 16 [.pointer (some ⟨P, 0, none⟩), u] w w1 fun v W => v = .tuple #[] ∧ ∃ l', PrK 8192 (Kf m) l (prJ m t.er) l' ∧ PrS w.heap.size P l' 8192 W := by
 refine cb_enter (N := 55) (f := [(0, .pointer (some ⟨P, 0, none⟩)), (1, u)]) Tryz.func16 rfl rfl rfl rfl fun Q hQ hE => ?_
 have hL := LL.nil w1
 refine Sq fun K1 hK1 => ?_
 obtain ⟨hnt, hit, hct⟩ := id ht
 refine Rg (Pu rfl (Va (dx_nilP rfl rfl (hu.below hB)) rfl rfl ?_))
 refine Ge (dx_fldP 1 rfl ty_fld_27_0_0 rfl (hu.below hB) (cs' := [.int .i64 t.kind]) rfl (Nat.succ_pos _)) rfl rfl ?_
 rintro u2 _ ⟨rfl, p3⟩
 refine Va (dx_loadP rfl ty_one_3 rfl p3) rfl rfl (Ni (hK1 (WC.block (Sq fun K4 hK4 => (Rg (Va (dx_eql rfl rfl rfl) rfl rfl (Pu rfl ?_)))))))
 refine Ni (hK4 ?_)
 refine WC.cond rfl (fun c5 => ?_) (fun c5 => ?_)
 ·
  replace c5 := dT c5
  refine Rg (Pu rfl (Va (dx_nilCheck rfl rfl) rfl rfl (Va (dx_fld (o1 := 0) rfl ty_fld_47_0_0 rfl rfl) rfl rfl ?_)))
  refine Ge (dx_cb rfl Tryz.func34 rfl rfl rfl (wstr_v P l 8192 ({ data := #[110, 117, 108, 108] }) w w1 hB hst (by (try simp only [List.length_append, List.length_cons, List.length_nil]); omega) (by decide))) rfl rfl ?_
  rintro _ W6 ⟨⟨rfl, hst⟩, hB⟩
  have hL := LL.nil W6
  refine Ni ?_
  intro a_ ha_
  exact hE (cv_ret0 rfl  ⟨rfl, _, val_w (x := [110, 117, 108, 108]) ((pr_l (by omega) (by omega)).trans (leafP_0 (by rw [er_kind]; assumption))) (by decide) rfl, hst⟩ hB ha_)
 ·
  replace c5 := dF c5
  refine Sq fun K7 hK7 => (Rg (Va (dx_eql rfl rfl rfl) rfl rfl (Pu rfl (Ni (hK7 ?_)))))
  refine WC.cond rfl (fun c8 => ?_) (fun c8 => ?_)
  ·
   replace c8 := dT c8
   refine Rg (Pu rfl (Va (dx_nilCheck rfl rfl) rfl rfl (Va (dx_fld (o1 := 0) rfl ty_fld_47_0_0 rfl rfl) rfl rfl ?_)))
   refine Ge (dx_cb rfl Tryz.func34 rfl rfl rfl (wstr_v P l 8192 ({ data := #[116, 114, 117, 101] }) w w1 hB hst (by (try simp only [List.length_append, List.length_cons, List.length_nil]); omega) (by decide))) rfl rfl ?_
   rintro _ W9 ⟨⟨rfl, hst⟩, hB⟩
   have hL := LL.nil W9
   refine Ni ?_
   intro a_ ha_
   exact hE (cv_ret0 rfl  ⟨rfl, _, val_w (x := [116, 114, 117, 101]) ((pr_l (by omega) (by omega)).trans (leafP_1 (by rw [er_kind]; assumption))) (by decide) rfl, hst⟩ hB ha_)
  ·
   replace c8 := dF c8
   refine Sq fun K10 hK10 => (Rg (Va (dx_eql rfl rfl rfl) rfl rfl (Pu rfl (Ni (hK10 ?_)))))
   refine WC.cond rfl (fun c11 => ?_) (fun c11 => ?_)
   ·
    replace c11 := dT c11
    refine Rg (Pu rfl (Va (dx_nilCheck rfl rfl) rfl rfl (Va (dx_fld (o1 := 0) rfl ty_fld_47_0_0 rfl rfl) rfl rfl ?_)))
    refine Ge (dx_cb rfl Tryz.func34 rfl rfl rfl (wstr_v P l 8192 ({ data := #[102, 97, 108, 115, 101] }) w w1 hB hst (by (try simp only [List.length_append, List.length_cons, List.length_nil]); omega) (by decide))) rfl rfl ?_
    rintro _ W12 ⟨⟨rfl, hst⟩, hB⟩
    have hL := LL.nil W12
    refine Ni ?_
    intro a_ ha_
    exact hE (cv_ret0 rfl  ⟨rfl, _, val_w (x := [102, 97, 108, 115, 101]) ((pr_l (by omega) (by omega)).trans (leafP_2 (by rw [er_kind]; assumption))) (by decide) rfl, hst⟩ hB ha_)
   ·
    replace c11 := dF c11
    refine Sq fun K13 hK13 => (Rg (Va (dx_eql rfl rfl rfl) rfl rfl (Pu rfl (Ni (hK13 ?_)))))
    refine WC.cond rfl (fun c14 => ?_) (fun c14 => ?_)
    ·
     replace c14 := dT c14
     obtain ⟨hn0, hn1⟩ := num_of hr (by assumption)
     have huw := hu.below hB
     refine dM 8 [(some 28, .is (.pointer (some ⟨P, 0, none⟩))), (some 29, .is (.pointer (some ⟨P, 0, none⟩))), (some 30, .is (.pointer (some ⟨P, 0, none⟩))), (some 31, .is (u)), (some 32, .is (u)), (some 33, .by fun u W => PtR ([]) W u [.int .i64 t.num]), (some 34, .is (.int .i64 t.num)), (some 35, .is (.string ⟨(Lib.itoa t.num).toArray⟩))] [[], [0], [1], [], [3], [4], [5], [6]] ⟨fun _ _ _ hb h => h.below hb, trivial⟩ ?_ ?_
     ·
      refine Dc (fun Wd hd => ?_) ?_
      ·
       exact Dd (dx_move rfl rfl) rfl
      refine Dc (fun Wd hd => ?_) ?_
      ·
       exact Dd (dx_nilCheck rfl rfl) rfl
      refine Dc (fun Wd hd => ?_) ?_
      ·
       exact Dd (dx_fld (o1 := 0) rfl ty_fld_47_0_0 rfl rfl) rfl
      refine Dc (fun Wd hd => ?_) ?_
      ·
       exact Dd (dx_move rfl rfl) rfl
      refine Dc (fun Wd hd => ?_) ?_
      ·
       have huw := huw.below hd
       exact Dd (dx_nilP rfl rfl huw) rfl
      refine Dc (fun Wd hd => ?_) ?_
      ·
       have huw := huw.below hd
       exact (dx_fldP 1 rfl ty_fld_27_1_1 rfl huw (cs' := [.int .i64 t.num]) rfl (Nat.succ_pos _)).mono (fun v W' h => ⟨by rw [← h.1]; exact Below.refl _ _, by rw [← h.1]; exact h.2⟩)
      refine Dc (fun Wd hd => ?_) ?_
      ·
       intro u8_5 p8_5
       exact Dd (dx_loadP rfl ty_one_3 rfl p8_5) rfl
      refine Dc (fun Wd hd => ?_) ?_
      ·
       exact DR.mono (dx_cv rfl Tryz.func35 rfl rfl rfl (itoa_v t.num Wd (tabP_below htab (below_then hB hd)) (by omega) (by omega))) (fun v W' ⟨h, hb⟩ => ⟨hb, (by rw [h]; exact rfl)⟩)
      exact trivial
     ·
      intro W15 b16
      intro u8_5 p8_5
      replace hst := hst.below b16
      replace hB := below_then hB b16
      replace hL := LL.below hL b16
      refine Ge (dx_cb rfl Tryz.func34 rfl rfl rfl (wstr_v P l 8192 ⟨(Lib.itoa t.num).toArray⟩ w W15 hB hst (by (try simp only [List.length_append, List.length_cons, List.length_nil]); omega) (by have := itoa_size t.num (by omega) (by omega); omega))) rfl rfl ?_
      rintro _ W17 ⟨⟨rfl, hst⟩, hB⟩
      have hL := LL.nil W17
      refine Ni ?_
      intro a_ ha_
      exact hE (cv_ret0 rfl  ⟨rfl, _, val_w (x := numJ t.num) ((pr_l (by omega) (by omega)).trans ((leafP_3 (by rw [er_kind]; assumption)).trans (by rw [er_num]))) (by have := numJ_len (n := t.num) (by omega) (by omega); omega) (by rw [itoa_sb]), hst⟩ hB ha_)
    ·
     replace c14 := dF c14
     refine Sq fun K18 hK18 => (Rg (Va (dx_eql rfl rfl rfl) rfl rfl (Pu rfl (Ni (hK18 ?_)))))
     refine WC.cond rfl (fun c19 => ?_) (fun c19 => ?_)
     ·
      replace c19 := dT c19
      refine Rg (Pu rfl (Pu rfl (Va (dx_nilP rfl rfl (hu.below hB)) rfl rfl ?_)))
      refine Ge (dx_fldP 1 rfl ty_fld_27_2_2 rfl (hu.below hB) (cs' := [.string t.text]) rfl (Nat.succ_pos _)) rfl rfl ?_
      rintro u20 _ ⟨rfl, p21⟩
      refine Va (dx_loadP rfl ty_one_9 rfl p21) rfl rfl ?_
      refine Ge (dx_cb rfl Tryz.func36 rfl rfl rfl (ptext_v P l 8192 t.text w w1 hB hst (by omega) hz.1)) rfl rfl ?_
      rintro _ W22 ⟨⟨rfl, b2, hkb2, hst⟩, hB⟩
      have hL := LL.nil W22
      refine Ni ?_
      intro a_ ha_
      exact hE (cv_ret0 rfl  ⟨rfl, _, (by rw [show prJ m t.er = quoJ t.text from (pr_l (by omega) (by omega)).trans ((leafP_4 (by rw [er_kind]; assumption)).trans (by rw [er_text]))]; exact prK_le hkb2 (by unfold Kf; omega)), hst⟩ hB ha_)
     ·
      replace c19 := dF c19
      refine Sq fun K23 hK23 => (Rg (Va (dx_eql rfl rfl rfl) rfl rfl (Pu rfl (Ni (hK23 ?_)))))
      refine WC.cond rfl (fun c24 => ?_) (fun c24 => ?_)
      ·
       replace c24 := dT c24
       obtain ⟨q, rfl, hrq, hln6⟩ := node_of hr (by first | exact .inl (by assumption) | exact .inr (by assumption))
       have hvq : ∀ (c : Tr) (uc : Value) (P : Nat) (l : List Int) (w w1 : World), Below w.heap.size w w1 → PrS w.heap.size P l 8192 w1 → tabP w → PtR [] w uc (encT c) → RdT n [] w c → SzT 1000000 n c → rightJ upB q c.er = true → l.length ≤ 10000000 → CB Tryz.prog 16 [selfP P, uc] w w1 fun v W => v = .tuple #[] ∧ ∃ l', PrK 8192 (Kf q) l (prJ q c.er) l' ∧ PrS w.heap.size P l' 8192 W := fun c uc P l w w1 h1 h2 h3 h4 h5 h6 h7 h8 => by cases n with | zero => exact h5.elim | succ k => exact ih q rfl k c uc P l w w1 h1 h2 h3 h4 h5 h6 h7 h8 (by omega)
       refine Rg (Pu rfl (Pu rfl ?_))
       refine Ge (dx_cb rfl Tryz.func37 rfl rfl rfl (pitems5_v q n t u P l w w1 hB hst htab hu ht hz (by assumption) trivial hlen (by omega) hvq hrq)) rfl rfl ?_
       rintro _ W25 ⟨⟨rfl, b6, hk6_, hst⟩, hB⟩
       have hL := LL.nil W25
       refine Ni ?_
       intro a_ ha_
       exact hE (cv_ret0 rfl  ⟨rfl, _, hk6_, hst⟩ hB ha_)
      ·
       replace c24 := dF c24
       refine Sq fun K26 hK26 => (Rg (Va (dx_eql rfl rfl rfl) rfl rfl (Pu rfl (Ni (hK26 ?_)))))
       refine WC.cond rfl (fun c27 => ?_) (fun c27 => ?_)
       ·
        replace c27 := dT c27
        obtain ⟨q, rfl, hrq, hln6⟩ := node_of hr (by first | exact .inl (by assumption) | exact .inr (by assumption))
        have hvq : ∀ (c : Tr) (uc : Value) (P : Nat) (l : List Int) (w w1 : World), Below w.heap.size w w1 → PrS w.heap.size P l 8192 w1 → tabP w → PtR [] w uc (encT c) → RdT n [] w c → SzT 1000000 n c → rightJ upB q c.er = true → l.length ≤ 10000000 → CB Tryz.prog 16 [selfP P, uc] w w1 fun v W => v = .tuple #[] ∧ ∃ l', PrK 8192 (Kf q) l (prJ q c.er) l' ∧ PrS w.heap.size P l' 8192 W := fun c uc P l w w1 h1 h2 h3 h4 h5 h6 h7 h8 => by cases n with | zero => exact h5.elim | succ k => exact ih q rfl k c uc P l w w1 h1 h2 h3 h4 h5 h6 h7 h8 (by omega)
        refine Rg (Pu rfl (Pu rfl ?_))
        refine Ge (dx_cb rfl Tryz.func37 rfl rfl rfl (pitems6_v q n t u P l w w1 hB hst htab hu ht hz (by assumption) (hln6 (by assumption)) hlen (by omega) hvq hrq)) rfl rfl ?_
        rintro _ W28 ⟨⟨rfl, b6, hk6_, hst⟩, hB⟩
        have hL := LL.nil W28
        refine Ni ?_
        intro a_ ha_
        exact hE (cv_ret0 rfl  ⟨rfl, _, hk6_, hst⟩ hB ha_)
       ·
        replace c27 := dF c27
        exact (kinds_of hr (by assumption) (by assumption) (by assumption) (by assumption) (by assumption) (by assumption) (by assumption)).elim

theorem valP_all : ∀ m, ValP m
 | 0 => fun n t u P l w w1 hB hst htab hu ht hz hr hl hm => pvalue_step 0 (fun q h => by omega) n t u P l w w1 hB hst htab hu ht hz hr hl hm
 | m + 1 => fun n t u P l w w1 hB hst htab hu ht hz hr hl hm => pvalue_step (m + 1) (fun q h => by (obtain rfl : m = q := (by omega)); exact valP_all m) n t u P l w w1 hB hst htab hu ht hz hr hl hm
section
variable {P : Program} {ops : Array Oper} {o : Oper} {N : Nat} {f : Fl} {w : World}
theorem dx_boxE {t : TypeId} {x : Operand} {V : Value} (ho : o.op = .box t x) (hx : ev f x = some V) (hw : wantF ops o f = some true := by rfl) : DR P ops o N f w (fun u W => u = .pointer (some ⟨w.heap.size, 0, none⟩) ∧ W = w.alloc (.cells V.cells t)) := fun a ha => by
 have hx := ha.ev hx
 exact Does.of_wp (wantF_of ha hw) fun K hK => by
  unfold Oper.wp execOp
  simp only [ho, hx, Sem.run_bind, Instr.box, newVar, newRow, run_newObj_alloc, Sem.run_pure, Result.andThen_ok]
  exact hK _ _ ⟨rfl, rfl⟩
end
theorem bld_p (m : Int) : Tryz.prog.built 47 [(1, .int .i64 m)] = some [.pointer none, .slice none 0 0, .int .i64 m].toArray := by kernel_rfl
theorem prS_new (w : World) (m : Int) : PrS w.heap.size w.heap.size [] m (w.alloc (.cells #[.pointer none, .slice none 0 0, .int .i64 m] 47)) ∧ Below w.heap.size w (w.alloc (.cells #[.pointer none, .slice none 0 0, .int .i64 m] 47)) :=
 ⟨⟨(fun x hx => by cases hx), .inl ⟨Nat.le_refl _, _, heap_alloc_new w _, World.ownsRow_nil _ _ _ _, by simp [Value.ownBlock]⟩⟩, (Below.refl _ w).alloc (Nat.le_refl _) _⟩
def prtS (j : Js) : ByteArray × Int := if rightJ upB 12 j = true then (if 8192 < (textJ j).length then (⟨#[]⟩, 3) else (strOfNums (textJ j), 0)) else (⟨#[]⟩, 1)
section
variable {j : Js} {b : List Int}
theorem prt_no (h : ¬ rightJ upB 12 j = true) : prtS j = (⟨#[]⟩, 1) := by unfold prtS; rw [if_neg h]
theorem prt_long (h : rightJ upB 12 j = true) (hk : PrK 8192 (Kf 12) [] (prJ 12 j) b) (hf : 8192 < (b.length : Int)) : prtS j = (⟨#[]⟩, 3) := by
 unfold prtS
 rw [if_pos h, if_pos]
 have h1 := hk.1
 unfold textJ
 rcases h1 with ⟨a, rfl⟩ | ⟨a, _⟩
 · rw [List.nil_append] at hf; omega
 · simp only [List.length_nil] at a; omega
theorem prt_ok (h : rightJ upB 12 j = true) (hk : PrK 8192 (Kf 12) [] (prJ 12 j) b) (hf : ¬ 8192 < (b.length : Int)) : prtS j = (strOfNums b, 0) := by
 obtain ⟨e, hl⟩ := prK_go hk hf
 rw [List.nil_append] at e
 subst e
 unfold prtS
 rw [if_pos h, if_neg (by unfold textJ; omega)]; rfl
theorem pr_ne (hk : PrK 8192 (Kf 12) [] (prJ 12 j) b) (hf : ¬ 8192 < (b.length : Int)) : b ≠ [] := by
 obtain ⟨e, _⟩ := prK_go hk hf
 obtain ⟨c, l, h1, _⟩ := head_pr 12 j
 rw [e, List.nil_append, h1]; intro h; cases h
end
set_option maxHeartbeats 1000000 in
theorem cPrint_v (n : Nat) (t : Tr) (w : World) (L : List Nat) (hL : LL L w) (ht : RdT (n + 1) L w t)  (hz : SzT 1000000 (n + 1) t) (htab : tabP w) : CV Tryz.prog 8 [.agg #[.int .i64 t.kind, .int .i64 t.num, .string t.text, t.nv, t.iv]] w fun v W => v = .tuple #[.string (prtS t.er).1, .int .i64 (prtS t.er).2] := by
 refine cv_enter (N := 18) (f := [(0, .agg #[.int .i64 t.kind, .int .i64 t.num, .string t.text, t.nv, t.iv])]) Tryz.func8 rfl rfl rfl rfl fun Q hQ hE => ?_
 have hB := Below.refl w.heap.size w
 refine Sq fun K1 hK1 => ?_
 obtain ⟨hnt, hit, hct⟩ := ht
 replace hct : RdTs n (L) w t.items := hct
 refine Rg ?_
 refine Ge (dx_box rfl rfl rfl) rfl rfl ?_
 rintro _ W2 ⟨rfl, k3, b4, z5⟩
 have l6 := hB.size
 replace hnt := hnt.more b4 (Nat.le_refl _)
 replace hit := hit.more b4 (Nat.le_refl _)
 replace hct := hct.more b4 (Nat.le_refl _)
 replace hB := below_then hB b4
 replace hL := LL.more hL z5
 refine Pu rfl (Pu rfl (Ni (hK1 (Sq fun K7 hK7 => (Sq fun K8 hK8 => (Rg (Va (dx_loadN rfl ty_agg_27_5 rfl k3.range rfl) rfl rfl ?_)))))))
 refine Ge (dx_cv rfl Tryz.func15 rfl rfl rfl (jRight_v n t W2 _ hL (show RdT (n + 1) (w.heap.size :: L) W2 t from ⟨hnt, hit, hct⟩) hz)) rfl rfl ?_
 rintro _ W10 ⟨rfl, b9⟩
 replace hnt := hnt.below b9
 replace hit := hit.below b9
 replace hct := hct.below b9
 replace k3 := k3.below b9
 replace hB := below_then hB b9
 replace hL := LL.below hL b9
 refine Va (dx_not rfl rfl) rfl rfl (Ni (hK8 ?_))
 refine WC.cond rfl (fun c11 => ?_) (fun c11 => ?_)
 ·
  replace c11 := bnot_t c11
  refine Sq fun K12 hK12 => (Rg (Pu rfl (Pu rfl (Ni (hK12 ?_)))))
  exact WC.ret fun a_ ha_ => hQ (cv_ret2 rfl (.tmp rfl) (.tmp rfl) (by rw [prt_no (by first | assumption | (simp_all; done))]) hB ha_)
 ·
  replace c11 := bnot_f c11
  refine WC.skip (hK7 (Sq fun K13 hK13 => ?_))
  have hrt : rightJ upB 12 t.er = true := (by first | assumption | (simp_all; done))
  refine Rg (Va (dx_build rfl rfl (bld_p _)) rfl rfl ?_)
  have htB : RdT (n + 1) [] W10 t := RdT.less (show RdT (n + 1) (w.heap.size :: L) W10 t from ⟨hnt, hit, hct⟩) (fun x hx => by cases hx)
  have hpB : PtR [] W10 (.pointer (some ⟨w.heap.size, 0, none⟩)) (encT t) := ⟨Nat.succ_pos _, _, 0, rfl, (fun hx => by cases hx), k3.range⟩
  have htab1 := tabP_below htab hB
  refine Ge (dx_boxE rfl rfl) rfl rfl ?_
  rintro _ W14 ⟨rfl, hW2⟩
  obtain ⟨hst, hB9⟩ : PrS W10.heap.size W10.heap.size [] 8192 W14 ∧ Below W10.heap.size W10 W14 := by rw [hW2]; exact prS_new W10 8192
  have hL := LL.nil W14
  refine Pu rfl (Ni (hK13 (Sq fun K15 hK15 => (Rg (Pu rfl ?_)))))
  refine Ge (dx_cb rfl Tryz.func16 rfl rfl rfl (valP_all 12 n t _ _ [] W10 W14 hB9 hst htab1 hpB htB hz hrt (by decide) (by decide))) rfl rfl ?_
  rintro _ W16 ⟨⟨rfl, b1, hk1, hst⟩, hB9⟩
  have hL := LL.nil W16
  refine Ni (hK15 (Sq fun K17 hK17 => (Sq fun K18 hK18 => (Rg (Pu rfl ?_)))))
  refine Ge (dx_cb rfl Tryz.func17 rfl rfl rfl (full_v _ b1 8192 W10 W16 hB9 hst)) rfl rfl ?_
  rintro _ W19 ⟨⟨rfl, hst⟩, hB9⟩
  have hL := LL.nil W19
  refine Ni (hK18 ?_)
  refine WC.cond rfl (fun c20 => ?_) (fun c20 => ?_)
  ·
   replace c20 := dT c20
   refine Sq fun K21 hK21 => (Rg (Pu rfl (Pu rfl (Ni (hK21 ?_)))))
   exact WC.ret fun a_ ha_ => hQ (cv_ret2 rfl (.tmp rfl) (.tmp rfl) (by rw [prt_long hrt hk1 (by omega)]) (below_then hB hB9) ha_)
  ·
   replace c20 := dF c20
   refine WC.skip (hK17 (Sq fun K22 hK22 => (Rg (Pu rfl (Va (dx_nilCheck rfl rfl) rfl rfl (Va (dx_fld (o1 := 0) rfl ty_fld_47_0_0 rfl rfl) rfl rfl ?_))))))
   refine Ge (dx_cb rfl Tryz.func18 rfl rfl rfl (bstr_v _ b1 8192 W10 W19 hB9 hst (pr_ne hk1 (by omega)))) rfl rfl ?_
   rintro _ W23 ⟨rfl, hB9⟩
   have hL := LL.nil W23
   refine Pu rfl (Pu rfl (Ni (hK22 ?_)))
   exact WC.ret fun a_ ha_ => hQ (cv_ret2 rfl (.tmp rfl) (.tmp rfl) (by rw [prt_ok hrt hk1 (by omega)]) (below_then hB hB9) ha_)

end Go.Proofs.YtghpdnfdbhjmpaaGreatDoor

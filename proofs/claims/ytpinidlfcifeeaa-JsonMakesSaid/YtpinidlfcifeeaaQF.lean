/- The reference's objects with an item, and without items. What Make comes to. A slice of eight that is written out, of elements of one cell. No program -/
import Derived.Shelf.SlSortCmp.InsertionK
import Derived.Shelf.SlLaysF0
import Derived.Shelf.Lay
import Derived.Ground.SlsfProg
import Derived.Shelf.SlSortCmp.WholeK
import Derived.Shelf.SlSortCmp.NoneTotal
import Derived.Test.YtpinidlfcifeeaaQE
namespace Go.Proofs.Ytpinidlfcifeeaa
open Go.RowKit
set_option linter.unusedVariables false
set_option linter.unusedSimpArgs false
set_option maxRecDepth 8000
set_option maxHeartbeats 2000000

theorem take_add {α : Type} {l : List α} {k : Nat} {x : α} (h : l[k]? = some x) : l.take k ++ [x] = l.take (k + 1) := by rw [List.take_add_one, h]; rfl
def putN (ns : List ByteArray) (nm : ByteArray) : List ByteArray := if ns[lbT nm ns]? = some nm then ns else insA (lbT nm ns) nm ns
def putT {α : Type} (ns : List ByteArray) (nm : ByteArray) (ts : List α) (x : α) : List α := if ns[lbT nm ns]? = some nm then ts.set (lbT nm ns) x else insA (lbT nm ns) x ts
theorem putJ_eq (j : Js) (nm : ByteArray) (x : Js) : putJ j nm x = .mk 6 0 ⟨#[]⟩ (putN j.names nm) (putT j.names nm j.items x) := by
 unfold putJ putN putT
 split <;> rfl
theorem putT_map {α β : Type} (f : α → β) (ns : List ByteArray) (nm : ByteArray) (ts : List α) (x : α) : (putT ns nm ts x).map f = putT ns nm (ts.map f) (f x) := by
 unfold putT
 split
 · rw [List.map_set]
 · rw [insA_map]
def putC (ns : List ByteArray) (nm : ByteArray) : Nat := if ns[lbT nm ns]? = some nm then 0 else 1
section
variable {α : Type} {ns : List ByteArray} {nm b : ByteArray} {ts : List α} {x t : α} {i : Nat}
theorem putC_le : putC ns nm ≤ 1 := by unfold putC; split <;> omega
theorem putN_len : (putN ns nm).length = ns.length + putC ns nm := by
 unfold putN putC
 split
 · rfl
 · exact insA_len (lbT_le _ _)
theorem putT_len (hl : ns.length = ts.length) : (putT ns nm ts x).length = ns.length + putC ns nm := by
 have := lbT_le nm ns
 unfold putT putC
 split
 · rw [List.length_set]; omega
 · rw [insA_len (by omega)]; omega
theorem putN_a : (putN ns nm)[lbT nm ns]? = some nm := by
 unfold putN
 split
 · rename_i h; exact h
 · exact insA_at (lbT_le _ _)
theorem putT_a (hl : ns.length = ts.length) : (putT ns nm ts x)[lbT nm ns]? = some x := by
  have := lbT_le nm ns
  unfold putT
  split
  · rename_i h
    have := (List.getElem?_eq_some_iff.1 h).1
    exact List.getElem?_set_self (by omega)
  · exact insA_at (by omega)
theorem putN_lt (h : i < lbT nm ns) : (putN ns nm)[i]? = ns[i]? := by
 unfold putN
 split
 · rfl
 · exact insA_lt (lbT_le _ _) h
theorem putT_lt (hl : ns.length = ts.length) (h : i < lbT nm ns) : (putT ns nm ts x)[i]? = ts[i]? := by
 have := lbT_le nm ns
 unfold putT
 split
 · exact List.getElem?_set_ne (by omega)
 · exact insA_lt (by omega) h
theorem putN_ge (h : lbT nm ns ≤ i) (hb : ns[i]? = some b) (hne : ¬ b = nm) : (putN ns nm)[i + putC ns nm]? = some b := by
  unfold putN putC
  split
  · exact hb
  · show (insA _ _ _)[i + 1]? = _
    rw [insA_ge (lbT_le _ _) h]; exact hb
theorem putT_ge (hl : ns.length = ts.length) (h : lbT nm ns ≤ i) (hb : ns[i]? = some b) (hne : ¬ b = nm) (ht : ts[i]? = some t) : (putT ns nm ts x)[i + putC ns nm]? = some t := by
  have := lbT_le nm ns
  unfold putT putC
  split
  · rename_i hf
    rw [Nat.add_zero, List.getElem?_set_ne (fun e => by rw [e, hb] at hf; exact hne (Option.some.inj hf))]; exact ht
  · rw [insA_ge (by omega) h]; exact ht
theorem putC_found (hr : Rises ns) (hb : ns[i]? = some nm) : putC ns nm = 0 ∧ i = lbT nm ns := by
 have hm := (mem_lb hr).1 (List.mem_of_getElem? hb)
 exact ⟨by unfold putC; rw [if_pos hm], rises_uniq hr hb hm⟩
theorem lb_is (hb : ns[i]? = some b) (h1 : i ≤ lbT nm ns) (h2 : sless b nm = false) : i = lbT nm ns := by
 rcases Nat.lt_or_ge i (lbT nm ns) with h | h
 · rw [lb_ahead h hb] at h2; cases h2
 · omega
theorem lb_not (hb : ns[i]? = some b) (hr : Rises ns) (h2 : sless b nm = true) : i < lbT nm ns := by
  rcases Nat.lt_or_ge i (lbT nm ns) with h | h
  · exact h
  · have hlt := (List.getElem?_eq_some_iff.1 hb).1
    have ha := List.getElem?_eq_getElem (l := ns) (i := lbT nm ns) (by omega)
    have := rises_ahead hr h hb h2 ha
    rw [lb_at ha] at this; cases this
end
theorem putC_not {ns : List ByteArray} {nm b : ByteArray} (hb : ns[lbT nm ns]? = some b) (hne : ¬ b = nm) : putC ns nm = 1 := by
 unfold putC
 rw [if_neg (fun h => by rw [hb] at h; exact hne (Option.some.inj h))]
set_option maxHeartbeats 2000000 in
theorem refPut_v (n : Nat) (p q : Tr) (name : ByteArray) (w : World) (L : List Nat) (hL : LL L w) (htp : RdT (n + 1) L w p) (htq : RdT (n + 1) L w q)  (hris : Rises p.names) (hlen : p.names.length = p.items.length) (hsm : p.names.length ≤ 1000000) : CV Try.prog 52 [.agg #[.int .i64 p.kind, .int .i64 p.num, .string p.text, p.nv, p.iv], .string name, .agg #[.int .i64 q.kind, .int .i64 q.num, .string q.text, q.nv, q.iv]] w fun v W => ∃ t, v = .agg #[.int .i64 t.kind, .int .i64 t.num, .string t.text, t.nv, t.iv] ∧ t.er = putJ p.er name q.er ∧ RdT (n + 2) L W t := by
 refine cv_enter (N := 83) (f := [(0, .agg #[.int .i64 p.kind, .int .i64 p.num, .string p.text, p.nv, p.iv]), (1, .string name), (2, .agg #[.int .i64 q.kind, .int .i64 q.num, .string q.text, q.nv, q.iv])]) Try.func52 rfl rfl rfl rfl fun Q hQ hE => ?_
 have hB := Below.refl w.heap.size w
 have hL0 := hL
 refine Sq fun K1 hK1 => ?_
 obtain ⟨hnp, hip, hcp⟩ := htp
 replace hcp : RdTs n (L) w p.items := hcp
 obtain ⟨hnq, hiq, hcq⟩ := htq
 replace hcq : RdTs n (L) w q.items := hcq
 refine Rg ?_
 refine Ge (dx_box rfl rfl rfl) rfl rfl ?_
 rintro _ W2 ⟨rfl, k3, b4, z5⟩
 have l6 := hB.size
 replace hnp := hnp.more b4 (Nat.le_refl _)
 replace hip := hip.more b4 (Nat.le_refl _)
 replace hcp := hcp.more b4 (Nat.le_refl _)
 replace hnq := hnq.more b4 (Nat.le_refl _)
 replace hiq := hiq.more b4 (Nat.le_refl _)
 replace hcq := hcq.more b4 (Nat.le_refl _)
 replace hB := below_then hB b4
 replace hL := LL.more hL z5
 refine Ge (dx_box rfl rfl rfl) rfl rfl ?_
 rintro _ W7 ⟨rfl, k8, b9, z10⟩
 have l12 := hB.size
 replace hnp := hnp.more b9 (Nat.le_refl _)
 replace hip := hip.more b9 (Nat.le_refl _)
 replace hcp := hcp.more b9 (Nat.le_refl _)
 replace hnq := hnq.more b9 (Nat.le_refl _)
 replace hiq := hiq.more b9 (Nat.le_refl _)
 replace hcq := hcq.more b9 (Nat.le_refl _)
 replace k3 := k3.below b9
 replace hB := below_then hB b9
 replace hL := LL.more hL z10
 refine Ge (dx_alloc rfl ty_zero_26 rfl) rfl rfl ?_
 rintro _ W13 ⟨rfl, k14, b15, z16⟩
 have l19 := hB.size
 replace hnp := hnp.more b15 (Nat.le_refl _)
 replace hip := hip.more b15 (Nat.le_refl _)
 replace hcp := hcp.more b15 (Nat.le_refl _)
 replace hnq := hnq.more b15 (Nat.le_refl _)
 replace hiq := hiq.more b15 (Nat.le_refl _)
 replace hcq := hcq.more b15 (Nat.le_refl _)
 replace k3 := k3.below b15
 replace k8 := k8.below b15
 replace hB := below_then hB b15
 replace hL := LL.more hL z16
 refine Ni (hK1 (Sq fun K20 hK20 => (Rg (Va (dx_build rfl rfl (built_of_O (cs := [.int .i64 6, .int .i64 0, .string ⟨#[]⟩, .slice none 0 0, .slice none 0 0]) (by kernel_rfl) (oc_cons rfl oc_nil))) rfl rfl ?_))))
 refine Ge (dx_alloc rfl ty_zero_26 rfl) rfl rfl ?_
 rintro _ W21 ⟨rfl, k22, b23, z24⟩
 have n25 : w.heap.size ≠ W13.heap.size := Nat.ne_of_lt k3.lt
 have n26 : W2.heap.size ≠ W13.heap.size := Nat.ne_of_lt k8.lt
 have n27 : W7.heap.size ≠ W13.heap.size := Nat.ne_of_lt k14.lt
 have l28 := hB.size
 replace hnp := hnp.more b23 (Nat.le_refl _)
 replace hip := hip.more b23 (Nat.le_refl _)
 replace hcp := hcp.more b23 (Nat.le_refl _)
 replace hnq := hnq.more b23 (Nat.le_refl _)
 replace hiq := hiq.more b23 (Nat.le_refl _)
 replace hcq := hcq.more b23 (Nat.le_refl _)
 replace k3 := k3.below b23
 replace k8 := k8.below b23
 replace k14 := k14.below b23
 replace hB := below_then hB b23
 replace hL := LL.more hL z24
 refine WL.do (dx_store (cs' := [.int .i64 6, .int .i64 0, .string ⟨#[]⟩, .slice none 0 0, .slice none 0 0]) (vs := [.int .i64 6, .int .i64 0, .string ⟨#[]⟩, .slice none 0 0, .slice none 0 0]) rfl ty_size_26_5 rfl rfl rfl (oc_cons rfl (oc_cons rfl (oc_cons rfl (oc_cons rfl (oc_cons rfl oc_nil))))) k22 rfl (Nat.le_of_ble_eq_true rfl) rfl) rfl ?_
 rintro _ W29 ⟨k31, o30⟩
 replace k3 := k3.other o30 n25
 replace k8 := k8.other o30 n26
 replace k14 := k14.other o30 n27
 clear k22
 replace hnp := hnp.only o30 (.head _)
 replace hip := hip.only o30 (.head _)
 replace hcp := hcp.only o30 (.head _)
 replace hnq := hnq.only o30 (.head _)
 replace hiq := hiq.only o30 (.head _)
 replace hcq := hcq.only o30 (.head _)
 replace hB := o30.below hB l28
 replace hL := LL.only hL o30
 refine Ni (hK20 (Sq fun K32 hK32 => (Rg (Pu rfl (Ni (hK32 (Sq fun K33 hK33 => ?_)))))))
 refine Sq fun K34 hK34 => (Rg (Pu rfl (Ni (hK34 (WC.block ?_)))))
 have hla := lbT_le name p.names
 have hnl := putN_len (ns := p.names) (nm := name)
 have htl := putT_len (nm := name) (x := q) hlen
 have hcl := putC_le (ns := p.names) (nm := name)
 obtain ⟨a_, ha_⟩ : ∃ a, a = lbT name p.names := ⟨_, rfl⟩
 obtain ⟨c_, hc_⟩ : ∃ a, a = putC p.names name := ⟨_, rfl⟩
 rw [← ha_] at hla
 rw [← hc_] at hnl htl hcl
 obtain ⟨b0, hb0⟩ : ∃ b, b = W29.heap.size := ⟨_, rfl⟩
 have hb0L : ∀ x ∈ (W13.heap.size :: W7.heap.size :: W2.heap.size :: w.heap.size :: L), x < b0 := by rw [hb0]; exact hL
 have hb0w : w.heap.size ≤ b0 := by rw [hb0]; exact hB.size
 have hnp6 := hnp
 have hip6 := hip
 have hnq6 := hnq
 have hiq6 := hiq
 have hcp6 := hcp
 have hcq6 := hcq
 have hag : AgL W29 (W13.heap.size :: W7.heap.size :: W2.heap.size :: w.heap.size :: L) (W13.heap.size :: W7.heap.size :: W2.heap.size :: w.heap.size :: L) W29 := ⟨fun _ h _ => h, ⟨Nat.le_refl _, fun _ _ _ => rfl⟩⟩
 have hm : MembI (n + 1) b0 (W13.heap.size :: W7.heap.size :: W2.heap.size :: w.heap.size :: L) (.slice none 0 0) ((putN p.names name).take 0) (.slice none 0 0) ((putT p.names name p.items q).take 0) W29 := ⟨hb0L, .inl ⟨rfl, rfl, by first | rfl | simp, by first | rfl | simp⟩⟩
 refine WC.loop4 (fun (i : Nat) (k : Nat) (nv : Value) (iv : Value) => [(1, .string name), (3, .pointer (some ⟨w.heap.size, 0, none⟩)), (5, .pointer (some ⟨W2.heap.size, 0, none⟩)), (6, .pointer (some ⟨W7.heap.size, 0, none⟩)), (7, .pointer (some ⟨W13.heap.size, 0, none⟩)), (9, .int .i64 (i : Int)), (8, .bool (decide (a_ < i)))]) (fun (i : Nat) (k : Nat) (nv : Value) (iv : Value) W => i ≤ p.names.length ∧ k ≤ i + 1 ∧ (a_ < i → k = i + c_) ∧ (i ≤ a_ → k = i) ∧ Below w.heap.size w W ∧ LL (W13.heap.size :: W7.heap.size :: W2.heap.size :: w.heap.size :: L) W ∧ RdF 1 (W13.heap.size :: W7.heap.size :: W2.heap.size :: w.heap.size :: L) W p.nv (p.names.map eS) ∧ RdF 5 (W13.heap.size :: W7.heap.size :: W2.heap.size :: w.heap.size :: L) W p.iv (p.items.map encT) ∧ RdTs n (W13.heap.size :: W7.heap.size :: W2.heap.size :: w.heap.size :: L) W p.items ∧ RdF 1 (W13.heap.size :: W7.heap.size :: W2.heap.size :: w.heap.size :: L) W q.nv (q.names.map eS) ∧ RdF 5 (W13.heap.size :: W7.heap.size :: W2.heap.size :: w.heap.size :: L) W q.iv (q.items.map encT) ∧ RdTs n (W13.heap.size :: W7.heap.size :: W2.heap.size :: w.heap.size :: L) W q.items ∧ AgL W29 (W13.heap.size :: W7.heap.size :: W2.heap.size :: w.heap.size :: L) (W13.heap.size :: W7.heap.size :: W2.heap.size :: w.heap.size :: L) W ∧ MembI (n + 1) b0 (W13.heap.size :: W7.heap.size :: W2.heap.size :: w.heap.size :: L) nv ((putN p.names name).take k) iv ((putT p.names name p.items q).take k) W ∧ Blk W w.heap.size [.int .i64 p.kind, .int .i64 p.num, .string p.text, p.nv, p.iv] ∧ Blk W W2.heap.size [.int .i64 q.kind, .int .i64 q.num, .string q.text, q.nv, q.iv] ∧ Blk W W7.heap.size [.int .i64 0, .int .i64 0, .string ⟨#[]⟩, .slice none 0 0, .slice none 0 0] ∧ Blk W W13.heap.size [.int .i64 6, .int .i64 0, .string ⟨#[]⟩, nv, iv]) (fun (i : Nat) (k : Nat) (nv : Value) (iv : Value) => p.names.length - i) 0 0 (.slice none 0 0) (.slice none 0 0) (by repeat first | exact trivial | exact And.intro rfl trivial | refine And.intro rfl ?_ | refine And.intro (congrArg (fun z : Int => some (Value.int .i64 z)) (by omega)) ?_ | refine And.intro (congrArg (fun z : Bool => some (Value.bool z)) (by first | exact (decide_eq_true (by omega)).symm | exact (decide_eq_false (by omega)).symm)) ?_) ⟨Nat.zero_le _, Nat.zero_le _, (fun h_ => by omega), (fun _ => rfl), hB, hL, hnp, hip, hcp, hnq, hiq, hcq, hag, hm, k3, k8, k14, k31⟩ ?_
 clear hnp hip hcp hnq hiq hcq hag hm k3 k8 k14 k31 hB hL
 rintro K35 i k nv iv W36 ⟨hi, hkl, hk1, hk2, hB, hL, hnp, hip, hcp, hnq, hiq, hcq, hag, hm, k3, k8, k14, k31⟩ hK35
 refine Sq fun K37 hK37 => (Sq fun K38 hK38 => (Rg (Pu rfl (Va (dx_fld (o1 := 3) rfl ty_fld_26_3_3 rfl rfl) rfl rfl (Va (dx_load rfl ty_one_23 rfl (k3.cell (k := 3) rfl)) rfl rfl (Va (dx_lenFM rfl ty_slice_23 rfl hnp) rfl rfl (Va (dx_lss rfl rfl rfl) rfl rfl ?_)))))))
 refine Ni (hK38 ?_)
 refine WC.cond rfl (fun c39 => ?_) (fun c39 => ?_)
 ·
  replace c39 := dT c39
  refine WC.skip (hK37 (Sq fun K40 hK40 => (WC.block (Sq fun K41 hK41 => (Sq fun K42 hK42 => ?_)))))
  by_cases hda : a_ < i
  ·
   have hkk := hk1 hda
   rw [decide_eq_true hda]
   refine Rg (Pu rfl (Va (dx_not rfl rfl) rfl rfl (Pu rfl (Of rfl (Of rfl (Of rfl (Of rfl ?_)))))))
   refine Of rfl (Of rfl (Of rfl (Pu rfl (Ni (hK42 (WC.condF rfl (WC.skip ?_)))))))
   refine hK41 (Sq fun K43 hK43 => (Rg (Va (dx_fld (o1 := 3) rfl ty_fld_26_3_3 rfl rfl) rfl rfl (Va (dx_load rfl ty_one_23 rfl (k3.cell (k := 3) rfl)) rfl rfl (Pu rfl ?_)))))
   obtain ⟨r44, e45⟩ : ∃ x, p.names[i]? = some x := ⟨_, List.getElem?_eq_getElem (by omega)⟩
   refine Ge (dx_idxF i rfl ty_slice_23 rfl rfl hnp (by omega) (at_mapX e45)) rfl rfl ?_
   rintro u46 _ ⟨rfl, p47⟩
   refine Va (dx_loadP rfl ty_one_9 rfl p47) rfl rfl (Pu rfl (Va (dx_neqT rfl rfl rfl) rfl rfl (Ni (hK43 ?_))))
   refine WC.cond rfl (fun c48 => ?_) (fun c48 => ?_)
   ·
    replace c48 := bnot_t c48
    replace c48 := dF c48
    refine Sq fun K49 hK49 => ?_
    have hne : ¬ r44 = name := by first | assumption | simp_all
    obtain ⟨-, hm⟩ := hm
    have hlN : ((putN p.names name).take k).length ≤ p.names.length + 1 ∧ ((putT p.names name p.items q).take k).length ≤ p.names.length + 1 := ⟨by rw [List.length_take]; omega, by rw [List.length_take]; omega⟩
    rcases hm with ⟨rfl, rfl, hns0, hts0⟩ | ⟨Bn, Bi, hni, hbn, hbi, hOn, hOi, hts⟩
    ·
     exfalso; have h_ := congrArg List.length hns0; rw [List.length_take, List.length_nil] at h_; omega
    ·
     have n50 : Bn ≠ w.heap.size := by have := hb0L (w.heap.size) (.tail _ (.tail _ (.tail _ (.head _)))); omega
     have n51 : Bi ≠ w.heap.size := by have := hb0L (w.heap.size) (.tail _ (.tail _ (.tail _ (.head _)))); omega
     have n52 : Bn ≠ W2.heap.size := by have := hb0L (W2.heap.size) (.tail _ (.tail _ (.head _))); omega
     have n53 : Bi ≠ W2.heap.size := by have := hb0L (W2.heap.size) (.tail _ (.tail _ (.head _))); omega
     have n54 : Bn ≠ W7.heap.size := by have := hb0L (W7.heap.size) (.tail _ (.head _)); omega
     have n55 : Bi ≠ W7.heap.size := by have := hb0L (W7.heap.size) (.tail _ (.head _)); omega
     have n56 : Bn ≠ W13.heap.size := by have := hb0L (W13.heap.size) (.head _); omega
     have n57 : Bi ≠ W13.heap.size := by have := hb0L (W13.heap.size) (.head _); omega
     have lbn : w.heap.size ≤ Bn := by omega
     have lbi : w.heap.size ≤ Bi := by omega
     replace hag := (hag.add (B := Bi) (by omega)).add (B := Bn) (by omega)
     replace hL := LL.cons (LL.cons hL hOi.lt) hOn.lt
     replace hnp := hag.rd hnp6
     replace hip := hag.rd hip6
     replace hnq := hag.rd hnq6
     replace hiq := hag.rd hiq6
     replace hcp : RdTs n (Bn :: Bi :: W13.heap.size :: W7.heap.size :: W2.heap.size :: w.heap.size :: L) W36 p.items := fun c hc_ => hag.rt (hcp6 c hc_)
     replace hcq : RdTs n (Bn :: Bi :: W13.heap.size :: W7.heap.size :: W2.heap.size :: w.heap.size :: L) W36 q.items := fun c hc_ => hag.rt (hcq6 c hc_)
     have n2 : (putN p.names name)[k]? = some r44 := by have h_ := putN_ge (nm := name) (i := i) (by omega) e45 hne; rw [← hc_] at h_; rw [hkk]; exact h_
     refine WC.drawM 8 [(some 48, .is (.pointer (some ⟨W13.heap.size, 3, none⟩))), (some 49, .is (nv)), (some 50, .is (.pointer (some ⟨w.heap.size, 3, none⟩))), (some 51, .is (p.nv)), (some 52, .is (.int .i64 (i : Int))), (some 53, .by fun u W => PtR (Bn :: Bi :: W13.heap.size :: W7.heap.size :: W2.heap.size :: w.heap.size :: L) W u [.string r44]), (some 54, .is (.string r44)), (some 55, .by fun u W => RdF 1 (Bn :: Bi :: W13.heap.size :: W7.heap.size :: W2.heap.size :: w.heap.size :: L) W u [[.string r44]])] [[], [0], [], [2], [], [3, 4], [5], [6]] (by kernel_rfl) (by kernel_rfl) (by kernel_rfl) (by kernel_rfl) (by kernel_rfl) (by kernel_rfl) (by kernel_rfl) ⟨fun _ _ _ hb h => h.below hb, fun _ _ _ hb h => h.below hb, trivial⟩ ?_ ?_
     ·
      refine Dc (fun Wd hd => ?_) ?_
      ·
       exact Dd (dx_fld (o1 := 3) rfl ty_fld_26_3_3 rfl rfl) rfl
      refine Dc (fun Wd hd => ?_) ?_
      ·
       have k31 := k31.below hd
       exact Dd (dx_load rfl ty_one_23 rfl (k31.cell (k := 3) rfl)) rfl
      refine Dc (fun Wd hd => ?_) ?_
      ·
       exact Dd (dx_fld (o1 := 3) rfl ty_fld_26_3_3 rfl rfl) rfl
      refine Dc (fun Wd hd => ?_) ?_
      ·
       have k3 := k3.below hd
       exact Dd (dx_load rfl ty_one_23 rfl (k3.cell (k := 3) rfl)) rfl
      refine Dc (fun Wd hd => ?_) ?_
      ·
       exact Dd (dx_move rfl rfl) rfl
      refine Dc (fun Wd hd => ?_) ?_
      ·
       have hnp := hnp.below hd
       exact (dx_idxF i rfl ty_slice_23 rfl rfl hnp (by omega) (at_mapX e45)).mono (fun v W' h => ⟨by rw [← h.1]; exact Below.refl _ _, by rw [← h.1]; exact h.2⟩)
      refine Dc (fun Wd hd => ?_) ?_
      ·
       intro u11_5 p11_5
       exact Dd (dx_loadP rfl ty_one_9 rfl p11_5) rfl
      refine Dc (fun Wd hd => ?_) ?_
      ·
       exact (dx_lit1 (r := [.string r44]) rfl ty_ap_23 (by decide) (by decide) rfl rfl rfl).mono (fun v W' h => ⟨h.2.1, h.1.notin (LL.below hL hd) (Nat.le_refl _)⟩)
      exact trivial
     ·
      intro W58 b59
      intro u11_5 p11_5
      intro u11_7 p11_7
      replace hnp := hnp.below b59
      replace hip := hip.below b59
      replace hcp := hcp.below b59
      replace hnq := hnq.below b59
      replace hiq := hiq.below b59
      replace hcq := hcq.below b59
      replace hag := hag.below b59
      replace hts := hts.below b59
      replace k3 := k3.below b59
      replace k8 := k8.below b59
      replace k14 := k14.below b59
      replace k31 := k31.below b59
      replace hOn := hOn.below b59
      replace hOi := hOi.below b59
      replace hB := below_then hB b59
      replace hL := LL.below hL b59
      refine Ge (dx_apO' (rs := (((putN p.names name).take k).map eS)) (news := [eS r44]) rfl ty_ap_23 rfl rfl hOn (RdF.less (L' := []) p11_7 (fun x hx => by cases hx)) (fun r hr => by rw [List.mem_singleton.1 hr]; exact (oc_cons rfl oc_nil)) (by simp only [List.length_map, List.length_append, List.length_cons, List.length_nil]; unfold maxLen; omega) (by simp only [List.length_map, List.length_append, List.length_cons, List.length_nil]; omega)) rfl rfl ?_
      rintro u60 W61 ⟨B66, k62, g65⟩
      rw [show (((putN p.names name).take k).map eS) ++ [eS r44] = ((((putN p.names name).take k) ++ [r44]).map eS) from by simp only [List.map_append, List.map_cons, List.map_nil]] at k62
      have q68 := hag.2.1
      have l69 : b0 ≤ B66 := g65.le hbn (by omega)
      have n73 : W13.heap.size ≠ B66 := k31.grow_ne g65 n56.symm
      have n74 : Bi ≠ B66 := hOi.grow_ne g65 hni.symm
      have l67 := g65.le lbn hB.size
      replace hnp := hnp.grow' g65 (.head _)
      replace hip := hip.grow' g65 (.head _)
      replace hcp := hcp.grow' g65 (.head _)
      replace hnq := hnq.grow' g65 (.head _)
      replace hiq := hiq.grow' g65 (.head _)
      replace hcq := hcq.grow' g65 (.head _)
      replace hag := hag.grow' g65 (.head _)
      replace hts := hts.grow' g65 (.head _)
      replace k3 := k3.grow g65 n50.symm
      replace k8 := k8.grow g65 n52.symm
      replace k14 := k14.grow g65 n54.symm
      replace k31 := k31.grow g65 n56.symm
      replace hOi := hOi.grow g65 hni.symm
      replace hB := g65.below hB lbn hB.size
      replace hL := LL.grow hL g65 k62.lt
      refine Va (dx_fld (o1 := 3) rfl ty_fld_26_3_3 rfl rfl) rfl rfl ?_
      refine WL.do (dx_store (cs' := [.int .i64 6, .int .i64 0, .string ⟨#[]⟩, u60, iv]) (vs := [u60]) rfl ty_size_23_1 rfl rfl (oc_one k62.one) (oc_cons k62.one oc_nil) k31 rfl (Nat.le_of_ble_eq_true rfl) rfl) rfl ?_
      rintro _ W75 ⟨k77, o76⟩
      replace k3 := k3.other o76 n25
      replace k8 := k8.other o76 n26
      replace k14 := k14.other o76 n27
      replace hOi := hOi.other o76 n57
      replace k62 := k62.other o76 n73.symm
      clear k31
      replace hnp := hnp.only o76 (.tail _ (.tail _ (.tail _ (.head _))))
      replace hip := hip.only o76 (.tail _ (.tail _ (.tail _ (.head _))))
      replace hcp := hcp.only o76 (.tail _ (.tail _ (.tail _ (.head _))))
      replace hnq := hnq.only o76 (.tail _ (.tail _ (.tail _ (.head _))))
      replace hiq := hiq.only o76 (.tail _ (.tail _ (.tail _ (.head _))))
      replace hcq := hcq.only o76 (.tail _ (.tail _ (.tail _ (.head _))))
      replace hag := hag.only o76 (.tail _ (.tail _ (.tail _ (.head _))))
      replace hts := hts.only o76 (.tail _ (.tail _ (.tail _ (.head _))))
      replace hB := o76.below hB l28
      replace hL := LL.only hL o76
      refine Ni (hK49 ?_)
      obtain ⟨t78, ht79⟩ : ∃ x, p.items[i]? = some x := ⟨_, List.getElem?_eq_getElem (by omega)⟩
      have hot78 := (hcp t78 (List.mem_of_getElem? ht79))
      obtain ⟨hnt78, hit78, hct78⟩ : RdF 1 (B66 :: Bn :: Bi :: W13.heap.size :: W7.heap.size :: W2.heap.size :: w.heap.size :: L) W75 t78.nv (t78.names.map eS) ∧ RdF 5 (B66 :: Bn :: Bi :: W13.heap.size :: W7.heap.size :: W2.heap.size :: w.heap.size :: L) W75 t78.iv (t78.items.map encT) ∧ ∀ c ∈ t78.items, RdT n (B66 :: Bn :: Bi :: W13.heap.size :: W7.heap.size :: W2.heap.size :: w.heap.size :: L) W75 c := by cases n with | zero => exact hot78.elim | succ n => exact ⟨hot78.1, hot78.2.1, fun c hc => (hot78.2.2 c hc).up⟩
      have t2 : (putT p.names name p.items q)[k]? = some t78 := by have h_ := putT_ge (x := q) hlen (i := i) (by omega) e45 hne ht79; rw [← hc_] at h_; rw [hkk]; exact h_
      refine WC.drawM 8 [(some 58, .is (.pointer (some ⟨W13.heap.size, 4, none⟩))), (some 59, .is (iv)), (some 60, .is (.pointer (some ⟨w.heap.size, 4, none⟩))), (some 61, .is (p.iv)), (some 62, .is (.int .i64 (i : Int))), (some 63, .by fun u W => PtR (B66 :: Bn :: Bi :: W13.heap.size :: W7.heap.size :: W2.heap.size :: w.heap.size :: L) W u (encT t78)), (some 64, .is (.agg #[.int .i64 t78.kind, .int .i64 t78.num, .string t78.text, t78.nv, t78.iv])), (some 65, .by fun u W => RdF 5 (B66 :: Bn :: Bi :: W13.heap.size :: W7.heap.size :: W2.heap.size :: w.heap.size :: L) W u [[.int .i64 t78.kind, .int .i64 t78.num, .string t78.text, t78.nv, t78.iv]])] [[], [0], [], [2], [], [3, 4], [5], [6]] (by kernel_rfl) (by kernel_rfl) (by kernel_rfl) (by kernel_rfl) (by kernel_rfl) (by kernel_rfl) (by kernel_rfl) ⟨fun _ _ _ hb h => h.below hb, fun _ _ _ hb h => h.below hb, trivial⟩ ?_ ?_
      ·
       refine Dc (fun Wd hd => ?_) ?_
       ·
        exact Dd (dx_fld (o1 := 4) rfl ty_fld_26_4_4 rfl rfl) rfl
       refine Dc (fun Wd hd => ?_) ?_
       ·
        have k77 := k77.below hd
        exact Dd (dx_load rfl ty_one_24 rfl (k77.cell (k := 4) rfl)) rfl
       refine Dc (fun Wd hd => ?_) ?_
       ·
        exact Dd (dx_fld (o1 := 4) rfl ty_fld_26_4_4 rfl rfl) rfl
       refine Dc (fun Wd hd => ?_) ?_
       ·
        have k3 := k3.below hd
        exact Dd (dx_load rfl ty_one_24 rfl (k3.cell (k := 4) rfl)) rfl
       refine Dc (fun Wd hd => ?_) ?_
       ·
        exact Dd (dx_move rfl rfl) rfl
       refine Dc (fun Wd hd => ?_) ?_
       ·
        have hip := hip.below hd
        exact (dx_idxF i rfl ty_slice_24 rfl rfl hip (by omega) (at_mapX ht79)).mono (fun v W' h => ⟨by rw [← h.1]; exact Below.refl _ _, by rw [← h.1]; exact h.2⟩)
       refine Dc (fun Wd hd => ?_) ?_
       ·
        intro u12_5 p12_5
        exact Dd (dx_loadPN rfl ty_agg_26_5 rfl p12_5 rfl) rfl
       refine Dc (fun Wd hd => ?_) ?_
       ·
        exact (dx_lit1 (r := [.int .i64 t78.kind, .int .i64 t78.num, .string t78.text, t78.nv, t78.iv]) rfl ty_ap_24 (by decide) (by decide) rfl rfl rfl).mono (fun v W' h => ⟨h.2.1, h.1.notin (LL.below hL hd) (Nat.le_refl _)⟩)
       exact trivial
      ·
       intro W80 b81
       intro u12_5 p12_5
       intro u12_7 p12_7
       replace hnp := hnp.below b81
       replace hip := hip.below b81
       replace hcp := hcp.below b81
       replace hnq := hnq.below b81
       replace hiq := hiq.below b81
       replace hcq := hcq.below b81
       replace hag := hag.below b81
       replace hts := hts.below b81
       replace k3 := k3.below b81
       replace k8 := k8.below b81
       replace k14 := k14.below b81
       replace k77 := k77.below b81
       replace hOi := hOi.below b81
       replace k62 := k62.below b81
       replace hB := below_then hB b81
       replace hL := LL.below hL b81
       refine Ge (dx_apO' (rs := (((putT p.names name p.items q).take k).map encT)) (news := [encT t78]) rfl ty_ap_24 rfl rfl hOi (RdF.less (L' := []) p12_7 (fun x hx => by cases hx)) (fun r hr => by rw [List.mem_singleton.1 hr]; exact (hcp t78 (List.mem_of_getElem? ht79)).oc) (by simp only [List.length_map, List.length_append, List.length_cons, List.length_nil]; unfold maxLen; omega) (by simp only [List.length_map, List.length_append, List.length_cons, List.length_nil]; omega)) rfl rfl ?_
       rintro u82 W83 ⟨B88, k84, g87⟩
       rw [show (((putT p.names name p.items q).take k).map encT) ++ [encT t78] = ((((putT p.names name p.items q).take k) ++ [t78]).map encT) from by simp only [List.map_append, List.map_cons, List.map_nil]] at k84
       have q90 := hag.2.1
       have l91 : b0 ≤ B88 := g87.le hbi (by omega)
       have n95 : W13.heap.size ≠ B88 := k77.grow_ne g87 n57.symm
       have n96 : B66 ≠ B88 := k62.grow_ne g87 n74.symm
       have l89 := g87.le lbi hB.size
       replace hnp := hnp.grow' g87 (.tail _ (.tail _ (.head _)))
       replace hip := hip.grow' g87 (.tail _ (.tail _ (.head _)))
       replace hcp := hcp.grow' g87 (.tail _ (.tail _ (.head _)))
       replace hnq := hnq.grow' g87 (.tail _ (.tail _ (.head _)))
       replace hiq := hiq.grow' g87 (.tail _ (.tail _ (.head _)))
       replace hcq := hcq.grow' g87 (.tail _ (.tail _ (.head _)))
       replace hag := hag.grow' g87 (.tail _ (.tail _ (.head _)))
       replace hts := hts.grow' g87 (.tail _ (.tail _ (.head _)))
       replace k3 := k3.grow g87 n51.symm
       replace k8 := k8.grow g87 n53.symm
       replace k14 := k14.grow g87 n55.symm
       replace k77 := k77.grow g87 n57.symm
       replace k62 := k62.grow g87 n74.symm
       replace hB := g87.below hB lbi hB.size
       replace hL := LL.grow hL g87 k84.lt
       refine Va (dx_fld (o1 := 4) rfl ty_fld_26_4_4 rfl rfl) rfl rfl ?_
       refine WL.do (dx_store (cs' := [.int .i64 6, .int .i64 0, .string ⟨#[]⟩, u60, u82]) (vs := [u82]) rfl ty_size_24_1 rfl rfl (oc_one k84.one) (oc_cons k84.one oc_nil) k77 rfl (Nat.le_of_ble_eq_true rfl) rfl) rfl ?_
       rintro _ W97 ⟨k99, o98⟩
       replace k3 := k3.other o98 n25
       replace k8 := k8.other o98 n26
       replace k14 := k14.other o98 n27
       replace k62 := k62.other o98 n73.symm
       replace k84 := k84.other o98 n95.symm
       clear k77
       replace hnp := hnp.only o98 (.tail _ (.tail _ (.tail _ (.tail _ (.head _)))))
       replace hip := hip.only o98 (.tail _ (.tail _ (.tail _ (.tail _ (.head _)))))
       replace hcp := hcp.only o98 (.tail _ (.tail _ (.tail _ (.tail _ (.head _)))))
       replace hnq := hnq.only o98 (.tail _ (.tail _ (.tail _ (.tail _ (.head _)))))
       replace hiq := hiq.only o98 (.tail _ (.tail _ (.tail _ (.tail _ (.head _)))))
       replace hcq := hcq.only o98 (.tail _ (.tail _ (.tail _ (.tail _ (.head _)))))
       replace hag := hag.only o98 (.tail _ (.tail _ (.tail _ (.tail _ (.head _)))))
       replace hts := hts.only o98 (.tail _ (.tail _ (.tail _ (.tail _ (.head _)))))
       replace hB := o98.below hB l28
       replace hL := LL.only hL o98
       refine Ni (hK40 (Rg (Pu rfl (Va (dx_add (r := (i : Int) + 1) rfl rfl rfl (wrap64_id (by omega))) rfl rfl (Pu rfl (Ni ?_))))))
       have eputN : (((putN p.names name).take k) ++ [r44]) = (putN p.names name).take (k + 1) := by rw [take_add n2]; (try rfl)
       have eputT : (((putT p.names name p.items q).take k) ++ [t78]) = (putT p.names name p.items q).take (k + 1) := by rw [take_add t2]; (try rfl)
       have hts2 : RdTs (n + 1) (B66 :: B88 :: W13.heap.size :: W7.heap.size :: W2.heap.size :: w.heap.size :: L) W97 (((putT p.names name p.items q).take k) ++ [t78]) := fun c hc_ => by
        simp only [List.mem_append, List.mem_singleton, or_assoc] at hc_
        rcases hc_ with h_ | h_
        · exact (hts c h_).less (fun x hx => by simp only [List.mem_cons] at hx ⊢; rcases hx with h_ | h_ | h_ <;> simp [h_])
        · (rw [h_]; exact (hcp t78 (List.mem_of_getElem? ht79)).up.less (fun x hx => by simp only [List.mem_cons] at hx ⊢; rcases hx with h_ | h_ | h_ <;> simp [h_]))
       have hm2 : MembI (n + 1) b0 (W13.heap.size :: W7.heap.size :: W2.heap.size :: w.heap.size :: L) u60 ((putN p.names name).take (k + 1)) u82 ((putT p.names name p.items q).take (k + 1)) W97 := ⟨hb0L, .inr ⟨B66, B88, n96, by omega, by omega, (by rw [← eputN]; exact k62), (by rw [← eputT]; exact k84), (by rw [← eputT]; exact hts2)⟩⟩
       have hL_ := hL.less (fun x hx => (.tail _ (.tail _ (.tail _ (.tail _ hx)))))
       replace hag : AgL W29 (W13.heap.size :: W7.heap.size :: W2.heap.size :: w.heap.size :: L) (W13.heap.size :: W7.heap.size :: W2.heap.size :: w.heap.size :: L) W97 := ⟨fun _ h _ => h, hag.2⟩
       replace hnp := hnp6.agree hag.2
       replace hip := hip6.agree hag.2
       replace hnq := hnq6.agree hag.2
       replace hiq := hiq6.agree hag.2
       replace hcp : RdTs n (W13.heap.size :: W7.heap.size :: W2.heap.size :: w.heap.size :: L) W97 p.items := fun c hc_ => (hcp6 c hc_).agree hag.2
       replace hcq : RdTs n (W13.heap.size :: W7.heap.size :: W2.heap.size :: w.heap.size :: L) W97 q.items := fun c hc_ => (hcq6 c hc_).agree hag.2
       replace hL := hL_
       exact hK35 (i + 1) (k + 1) u60 u82 ⟨(by omega), (by omega), (fun h_ => by omega), (fun h_ => by omega), hB, hL, hnp, hip, hcp, hnq, hiq, hcq, hag, hm2, k3, k8, k14, k99⟩ (by omega) (by repeat first | exact trivial | exact And.intro rfl trivial | refine And.intro rfl ?_ | refine And.intro (congrArg (fun z : Int => some (Value.int .i64 z)) (by omega)) ?_ | refine And.intro (congrArg (fun z : Bool => some (Value.bool z)) (by first | exact (decide_eq_true (by omega)).symm | exact (decide_eq_false (by omega)).symm)) ?_)
   ·
    replace c48 := bnot_f c48
    replace c48 := dT c48
    exfalso; have hc0 := (putC_found (nm := name) hris (by rw [← (show r44 = name by first | assumption | exact Classical.not_not.1 (by assumption) | simp_all)]; exact e45)).2; omega
  ·
   have hkk := hk2 (by omega)
   rw [decide_eq_false hda]
   refine Rg (Pu rfl (Va (dx_not rfl rfl) rfl rfl (Pu rfl (Va (dx_fld (o1 := 3) rfl ty_fld_26_3_3 rfl rfl) rfl rfl (Va (dx_load rfl ty_one_23 rfl (k3.cell (k := 3) rfl)) rfl rfl (Pu rfl ?_))))))
   obtain ⟨r100, e101⟩ : ∃ x, p.names[i]? = some x := ⟨_, List.getElem?_eq_getElem (by omega)⟩
   refine Ge (dx_idxF i rfl ty_slice_23 rfl rfl hnp (by omega) (at_mapX e101)) rfl rfl ?_
   rintro u102 _ ⟨rfl, p103⟩
   refine Va (dx_loadP rfl ty_one_9 rfl p103) rfl rfl (Pu rfl (Va (dx_geqT rfl rfl rfl) rfl rfl (Pu rfl (Ni (hK42 ?_)))))
   refine WC.cond rfl (fun c104 => ?_) (fun c104 => ?_)
   ·
    replace c104 := bnot_t c104
    refine Sq fun K105 hK105 => ?_
    have hia : i = a_ := by rw [ha_]; exact lb_is e101 (by omega) c104
    have n1 : (putN p.names name)[k]? = some name := by rw [show k = lbT name p.names by omega]; exact putN_a
    have t1 : (putT p.names name p.items q)[k]? = some q := by rw [show k = lbT name p.names by omega]; exact putT_a hlen
    obtain ⟨-, hm⟩ := hm
    have hlN : ((putN p.names name).take k).length ≤ p.names.length + 1 ∧ ((putT p.names name p.items q).take k).length ≤ p.names.length + 1 := ⟨by rw [List.length_take]; omega, by rw [List.length_take]; omega⟩
    rcases hm with ⟨rfl, rfl, hns0, hts0⟩ | ⟨Bn, Bi, hni, hbn, hbi, hOn, hOi, hts⟩
    ·
     refine Rg (Va (dx_fld (o1 := 3) rfl ty_fld_26_3_3 rfl rfl) rfl rfl (Va (dx_load rfl ty_one_23 rfl (k31.cell (k := 3) rfl)) rfl rfl (Pu rfl ?_)))
     refine Ge (dx_lit1 (r := [.string name]) rfl ty_ap_23 (by decide) (by decide) rfl rfl rfl) rfl rfl ?_
     rintro u110 W106 ⟨k107, b108, z109⟩
     have l115 := hB.size
     replace hnp := hnp.more b108 (Nat.le_refl _)
     replace hip := hip.more b108 (Nat.le_refl _)
     replace hcp := hcp.more b108 (Nat.le_refl _)
     replace hnq := hnq.more b108 (Nat.le_refl _)
     replace hiq := hiq.more b108 (Nat.le_refl _)
     replace hcq := hcq.more b108 (Nat.le_refl _)
     replace hag := hag.more b108 (Nat.le_refl _)
     replace k3 := k3.below b108
     replace k8 := k8.below b108
     replace k14 := k14.below b108
     replace k31 := k31.below b108
     replace hB := below_then hB b108
     replace hL := LL.more hL z109
     refine Ge (dx_apF (rs := []) (news := [eS name]) rfl ty_ap_23 rfl rfl (RdF.nil (L := []) (by decide)) (k107.rd (L := []) (by simp)) (by simp) (by simp [maxLen]) (by simp)) rfl rfl ?_
     rintro u116 W117 ⟨k118, b119, z120⟩
     have q123 := hag.2.1
     have l124 : b0 ≤ W106.heap.size := by omega
     have n125 : w.heap.size ≠ W106.heap.size := Nat.ne_of_lt k3.lt
     have n126 : W2.heap.size ≠ W106.heap.size := Nat.ne_of_lt k8.lt
     have n127 : W7.heap.size ≠ W106.heap.size := Nat.ne_of_lt k14.lt
     have n128 : W13.heap.size ≠ W106.heap.size := Nat.ne_of_lt k31.lt
     have l130 := hB.size
     replace hnp := hnp.more b119 (Nat.le_refl _)
     replace hip := hip.more b119 (Nat.le_refl _)
     replace hcp := hcp.more b119 (Nat.le_refl _)
     replace hnq := hnq.more b119 (Nat.le_refl _)
     replace hiq := hiq.more b119 (Nat.le_refl _)
     replace hcq := hcq.more b119 (Nat.le_refl _)
     replace hag := hag.more b119 (Nat.le_refl _)
     replace k3 := k3.below b119
     replace k8 := k8.below b119
     replace k14 := k14.below b119
     replace k31 := k31.below b119
     replace hB := below_then hB b119
     replace hL := LL.more hL z120
     refine Va (dx_fld (o1 := 3) rfl ty_fld_26_3_3 rfl rfl) rfl rfl ?_
     refine WL.do (dx_store (cs' := [.int .i64 6, .int .i64 0, .string ⟨#[]⟩, u116, .slice none 0 0]) (vs := [u116]) rfl ty_size_23_1 rfl rfl (oc_one k118.one) (oc_cons k118.one oc_nil) k31 rfl (Nat.le_of_ble_eq_true rfl) rfl) rfl ?_
     rintro _ W131 ⟨k133, o132⟩
     replace k3 := k3.other o132 n25
     replace k8 := k8.other o132 n26
     replace k14 := k14.other o132 n27
     replace k118 := k118.other o132 n128.symm
     clear k31
     replace hnp := hnp.only o132 (.tail _ (.tail _ (.head _)))
     replace hip := hip.only o132 (.tail _ (.tail _ (.head _)))
     replace hcp := hcp.only o132 (.tail _ (.tail _ (.head _)))
     replace hnq := hnq.only o132 (.tail _ (.tail _ (.head _)))
     replace hiq := hiq.only o132 (.tail _ (.tail _ (.head _)))
     replace hcq := hcq.only o132 (.tail _ (.tail _ (.head _)))
     replace hag := hag.only o132 (.tail _ (.tail _ (.head _)))
     replace hB := o132.below hB l28
     replace hL := LL.only hL o132
     refine Ni (hK105 (Sq fun K134 hK134 => (Rg (Va (dx_fld (o1 := 4) rfl ty_fld_26_4_4 rfl rfl) rfl rfl (Va (dx_load rfl ty_one_24 rfl (k133.cell (k := 4) rfl)) rfl rfl (Va (dx_loadN rfl ty_agg_26_5 rfl k8.range rfl) rfl rfl ?_))))))
     refine Ge (dx_lit1 (r := [.int .i64 q.kind, .int .i64 q.num, .string q.text, q.nv, q.iv]) rfl ty_ap_24 (by decide) (by decide) rfl rfl rfl) rfl rfl ?_
     rintro u139 W135 ⟨k136, b137, z138⟩
     have l146 := hB.size
     replace hnp := hnp.more b137 (Nat.le_refl _)
     replace hip := hip.more b137 (Nat.le_refl _)
     replace hcp := hcp.more b137 (Nat.le_refl _)
     replace hnq := hnq.more b137 (Nat.le_refl _)
     replace hiq := hiq.more b137 (Nat.le_refl _)
     replace hcq := hcq.more b137 (Nat.le_refl _)
     replace hag := hag.more b137 (Nat.le_refl _)
     replace k3 := k3.below b137
     replace k8 := k8.below b137
     replace k14 := k14.below b137
     replace k133 := k133.below b137
     replace k118 := k118.below b137
     replace hB := below_then hB b137
     replace hL := LL.more hL z138
     refine Ge (dx_apF (rs := []) (news := [encT q]) rfl ty_ap_24 rfl rfl (RdF.nil (L := []) (by decide)) (k136.rd (L := []) (by simp)) (by simp) (by simp [maxLen]) (by simp)) rfl rfl ?_
     rintro u147 W148 ⟨k149, b150, z151⟩
     have q154 := hag.2.1
     have l155 : b0 ≤ W135.heap.size := by omega
     have n156 : w.heap.size ≠ W135.heap.size := Nat.ne_of_lt k3.lt
     have n157 : W2.heap.size ≠ W135.heap.size := Nat.ne_of_lt k8.lt
     have n158 : W7.heap.size ≠ W135.heap.size := Nat.ne_of_lt k14.lt
     have n159 : W13.heap.size ≠ W135.heap.size := Nat.ne_of_lt k133.lt
     have n161 : W106.heap.size ≠ W135.heap.size := Nat.ne_of_lt k118.lt
     have l163 := hB.size
     replace hnp := hnp.more b150 (Nat.le_refl _)
     replace hip := hip.more b150 (Nat.le_refl _)
     replace hcp := hcp.more b150 (Nat.le_refl _)
     replace hnq := hnq.more b150 (Nat.le_refl _)
     replace hiq := hiq.more b150 (Nat.le_refl _)
     replace hcq := hcq.more b150 (Nat.le_refl _)
     replace hag := hag.more b150 (Nat.le_refl _)
     replace k3 := k3.below b150
     replace k8 := k8.below b150
     replace k14 := k14.below b150
     replace k133 := k133.below b150
     replace k118 := k118.below b150
     replace hB := below_then hB b150
     replace hL := LL.more hL z151
     refine Va (dx_fld (o1 := 4) rfl ty_fld_26_4_4 rfl rfl) rfl rfl ?_
     refine WL.do (dx_store (cs' := [.int .i64 6, .int .i64 0, .string ⟨#[]⟩, u116, u147]) (vs := [u147]) rfl ty_size_24_1 rfl rfl (oc_one k149.one) (oc_cons k149.one oc_nil) k133 rfl (Nat.le_of_ble_eq_true rfl) rfl) rfl ?_
     rintro _ W164 ⟨k166, o165⟩
     replace k3 := k3.other o165 n25
     replace k8 := k8.other o165 n26
     replace k14 := k14.other o165 n27
     replace k118 := k118.other o165 n128.symm
     replace k149 := k149.other o165 n159.symm
     clear k133
     replace hnp := hnp.only o165 (.tail _ (.tail _ (.tail _ (.tail _ (.head _)))))
     replace hip := hip.only o165 (.tail _ (.tail _ (.tail _ (.tail _ (.head _)))))
     replace hcp := hcp.only o165 (.tail _ (.tail _ (.tail _ (.tail _ (.head _)))))
     replace hnq := hnq.only o165 (.tail _ (.tail _ (.tail _ (.tail _ (.head _)))))
     replace hiq := hiq.only o165 (.tail _ (.tail _ (.tail _ (.tail _ (.head _)))))
     replace hcq := hcq.only o165 (.tail _ (.tail _ (.tail _ (.tail _ (.head _)))))
     replace hag := hag.only o165 (.tail _ (.tail _ (.tail _ (.tail _ (.head _)))))
     replace hB := o165.below hB l28
     replace hL := LL.only hL o165
     refine Ni (hK134 (Rg (Pu rfl (Ni (hK41 (Sq fun K167 hK167 => (Rg ?_)))))))
     refine Va (dx_fld (o1 := 3) rfl ty_fld_26_3_3 rfl rfl) rfl rfl (Va (dx_load rfl ty_one_23 rfl (k3.cell (k := 3) rfl)) rfl rfl (Pu rfl ?_))
     refine Ge (dx_idxF i rfl ty_slice_23 rfl rfl hnp (by omega) (at_mapX e101)) rfl rfl ?_
     rintro u168 _ ⟨rfl, p169⟩
     refine Va (dx_loadP rfl ty_one_9 rfl p169) rfl rfl (Pu rfl (Va (dx_neqT rfl rfl rfl) rfl rfl (Ni (hK167 ?_))))
     refine WC.cond rfl (fun c170 => ?_) (fun c170 => ?_)
     ·
      replace c170 := bnot_t c170
      replace c170 := dF c170
      refine Sq fun K171 hK171 => ?_
      have hne : ¬ r100 = name := by first | assumption | simp_all
      have hc1 : putC p.names name = 1 := putC_not (by rw [← ha_, ← hia]; exact e101) hne
      have n2 : (putN p.names name)[k + 1]? = some r100 := by have h_ := putN_ge (nm := name) (i := i) (by omega) e101 hne; rw [hc1] at h_; rw [show k = i by omega]; exact h_
      refine WC.drawM 8 [(some 48, .is (.pointer (some ⟨W13.heap.size, 3, none⟩))), (some 49, .is (u116)), (some 50, .is (.pointer (some ⟨w.heap.size, 3, none⟩))), (some 51, .is (p.nv)), (some 52, .is (.int .i64 (i : Int))), (some 53, .by fun u W => PtR (W135.heap.size :: W131.heap.size :: W106.heap.size :: W36.heap.size :: W13.heap.size :: W7.heap.size :: W2.heap.size :: w.heap.size :: L) W u [.string r100]), (some 54, .is (.string r100)), (some 55, .by fun u W => RdF 1 (W135.heap.size :: W131.heap.size :: W106.heap.size :: W36.heap.size :: W13.heap.size :: W7.heap.size :: W2.heap.size :: w.heap.size :: L) W u [[.string r100]])] [[], [0], [], [2], [], [3, 4], [5], [6]] (by kernel_rfl) (by kernel_rfl) (by kernel_rfl) (by kernel_rfl) (by kernel_rfl) (by kernel_rfl) (by kernel_rfl) ⟨fun _ _ _ hb h => h.below hb, fun _ _ _ hb h => h.below hb, trivial⟩ ?_ ?_
      ·
       refine Dc (fun Wd hd => ?_) ?_
       ·
        exact Dd (dx_fld (o1 := 3) rfl ty_fld_26_3_3 rfl rfl) rfl
       refine Dc (fun Wd hd => ?_) ?_
       ·
        have k166 := k166.below hd
        exact Dd (dx_load rfl ty_one_23 rfl (k166.cell (k := 3) rfl)) rfl
       refine Dc (fun Wd hd => ?_) ?_
       ·
        exact Dd (dx_fld (o1 := 3) rfl ty_fld_26_3_3 rfl rfl) rfl
       refine Dc (fun Wd hd => ?_) ?_
       ·
        have k3 := k3.below hd
        exact Dd (dx_load rfl ty_one_23 rfl (k3.cell (k := 3) rfl)) rfl
       refine Dc (fun Wd hd => ?_) ?_
       ·
        exact Dd (dx_move rfl rfl) rfl
       refine Dc (fun Wd hd => ?_) ?_
       ·
        have hnp := hnp.below hd
        exact (dx_idxF i rfl ty_slice_23 rfl rfl hnp (by omega) (at_mapX e101)).mono (fun v W' h => ⟨by rw [← h.1]; exact Below.refl _ _, by rw [← h.1]; exact h.2⟩)
       refine Dc (fun Wd hd => ?_) ?_
       ·
        intro u11_5 p11_5
        exact Dd (dx_loadP rfl ty_one_9 rfl p11_5) rfl
       refine Dc (fun Wd hd => ?_) ?_
       ·
        exact (dx_lit1 (r := [.string r100]) rfl ty_ap_23 (by decide) (by decide) rfl rfl rfl).mono (fun v W' h => ⟨h.2.1, h.1.notin (LL.below hL hd) (Nat.le_refl _)⟩)
       exact trivial
      ·
       intro W172 b173
       intro u11_5 p11_5
       intro u11_7 p11_7
       replace hnp := hnp.below b173
       replace hip := hip.below b173
       replace hcp := hcp.below b173
       replace hnq := hnq.below b173
       replace hiq := hiq.below b173
       replace hcq := hcq.below b173
       replace hag := hag.below b173
       replace k3 := k3.below b173
       replace k8 := k8.below b173
       replace k14 := k14.below b173
       replace k166 := k166.below b173
       replace k118 := k118.below b173
       replace k149 := k149.below b173
       replace hB := below_then hB b173
       replace hL := LL.below hL b173
       refine Ge (dx_apO' (rs := ([name].map eS)) (news := [eS r100]) rfl ty_ap_23 rfl rfl k118 (RdF.less (L' := []) p11_7 (fun x hx => by cases hx)) (fun r hr => by rw [List.mem_singleton.1 hr]; exact (oc_cons rfl oc_nil)) (by simp only [List.length_map, List.length_append, List.length_cons, List.length_nil]; unfold maxLen; omega) (by simp only [List.length_map, List.length_append, List.length_cons, List.length_nil]; omega)) rfl rfl ?_
       rintro u174 W175 ⟨B180, k176, g179⟩
       rw [show ([name].map eS) ++ [eS r100] = (([name] ++ [r100]).map eS) from by simp only [List.map_append, List.map_cons, List.map_nil]] at k176
       have q182 := hag.2.1
       have l183 : b0 ≤ B180 := g179.le l124 (by omega)
       have n187 : W13.heap.size ≠ B180 := k166.grow_ne g179 n128
       have n190 : W135.heap.size ≠ B180 := k149.grow_ne g179 n161.symm
       have l181 := g179.le l130 hB.size
       replace hnp := hnp.grow' g179 (.tail _ (.tail _ (.head _)))
       replace hip := hip.grow' g179 (.tail _ (.tail _ (.head _)))
       replace hcp := hcp.grow' g179 (.tail _ (.tail _ (.head _)))
       replace hnq := hnq.grow' g179 (.tail _ (.tail _ (.head _)))
       replace hiq := hiq.grow' g179 (.tail _ (.tail _ (.head _)))
       replace hcq := hcq.grow' g179 (.tail _ (.tail _ (.head _)))
       replace hag := hag.grow' g179 (.tail _ (.tail _ (.head _)))
       replace k3 := k3.grow g179 n125
       replace k8 := k8.grow g179 n126
       replace k14 := k14.grow g179 n127
       replace k166 := k166.grow g179 n128
       replace k149 := k149.grow g179 n161.symm
       replace hB := g179.below hB l130 hB.size
       replace hL := LL.grow hL g179 k176.lt
       refine Va (dx_fld (o1 := 3) rfl ty_fld_26_3_3 rfl rfl) rfl rfl ?_
       refine WL.do (dx_store (cs' := [.int .i64 6, .int .i64 0, .string ⟨#[]⟩, u174, u147]) (vs := [u174]) rfl ty_size_23_1 rfl rfl (oc_one k176.one) (oc_cons k176.one oc_nil) k166 rfl (Nat.le_of_ble_eq_true rfl) rfl) rfl ?_
       rintro _ W191 ⟨k193, o192⟩
       replace k3 := k3.other o192 n25
       replace k8 := k8.other o192 n26
       replace k14 := k14.other o192 n27
       replace k149 := k149.other o192 n159.symm
       replace k176 := k176.other o192 n187.symm
       clear k166
       replace hnp := hnp.only o192 (.tail _ (.tail _ (.tail _ (.tail _ (.tail _ (.head _))))))
       replace hip := hip.only o192 (.tail _ (.tail _ (.tail _ (.tail _ (.tail _ (.head _))))))
       replace hcp := hcp.only o192 (.tail _ (.tail _ (.tail _ (.tail _ (.tail _ (.head _))))))
       replace hnq := hnq.only o192 (.tail _ (.tail _ (.tail _ (.tail _ (.tail _ (.head _))))))
       replace hiq := hiq.only o192 (.tail _ (.tail _ (.tail _ (.tail _ (.tail _ (.head _))))))
       replace hcq := hcq.only o192 (.tail _ (.tail _ (.tail _ (.tail _ (.tail _ (.head _))))))
       replace hag := hag.only o192 (.tail _ (.tail _ (.tail _ (.tail _ (.tail _ (.head _))))))
       replace hB := o192.below hB l28
       replace hL := LL.only hL o192
       refine Ni (hK171 ?_)
       obtain ⟨t194, ht195⟩ : ∃ x, p.items[i]? = some x := ⟨_, List.getElem?_eq_getElem (by omega)⟩
       have hot194 := (hcp t194 (List.mem_of_getElem? ht195))
       obtain ⟨hnt194, hit194, hct194⟩ : RdF 1 (B180 :: W135.heap.size :: W131.heap.size :: W106.heap.size :: W36.heap.size :: W13.heap.size :: W7.heap.size :: W2.heap.size :: w.heap.size :: L) W191 t194.nv (t194.names.map eS) ∧ RdF 5 (B180 :: W135.heap.size :: W131.heap.size :: W106.heap.size :: W36.heap.size :: W13.heap.size :: W7.heap.size :: W2.heap.size :: w.heap.size :: L) W191 t194.iv (t194.items.map encT) ∧ ∀ c ∈ t194.items, RdT n (B180 :: W135.heap.size :: W131.heap.size :: W106.heap.size :: W36.heap.size :: W13.heap.size :: W7.heap.size :: W2.heap.size :: w.heap.size :: L) W191 c := by cases n with | zero => exact hot194.elim | succ n => exact ⟨hot194.1, hot194.2.1, fun c hc => (hot194.2.2 c hc).up⟩
       have t2 : (putT p.names name p.items q)[k + 1]? = some t194 := by have h_ := putT_ge (x := q) hlen (i := i) (by omega) e101 hne ht195; rw [hc1] at h_; rw [show k = i by omega]; exact h_
       refine WC.drawM 8 [(some 58, .is (.pointer (some ⟨W13.heap.size, 4, none⟩))), (some 59, .is (u147)), (some 60, .is (.pointer (some ⟨w.heap.size, 4, none⟩))), (some 61, .is (p.iv)), (some 62, .is (.int .i64 (i : Int))), (some 63, .by fun u W => PtR (B180 :: W135.heap.size :: W131.heap.size :: W106.heap.size :: W36.heap.size :: W13.heap.size :: W7.heap.size :: W2.heap.size :: w.heap.size :: L) W u (encT t194)), (some 64, .is (.agg #[.int .i64 t194.kind, .int .i64 t194.num, .string t194.text, t194.nv, t194.iv])), (some 65, .by fun u W => RdF 5 (B180 :: W135.heap.size :: W131.heap.size :: W106.heap.size :: W36.heap.size :: W13.heap.size :: W7.heap.size :: W2.heap.size :: w.heap.size :: L) W u [[.int .i64 t194.kind, .int .i64 t194.num, .string t194.text, t194.nv, t194.iv]])] [[], [0], [], [2], [], [3, 4], [5], [6]] (by kernel_rfl) (by kernel_rfl) (by kernel_rfl) (by kernel_rfl) (by kernel_rfl) (by kernel_rfl) (by kernel_rfl) ⟨fun _ _ _ hb h => h.below hb, fun _ _ _ hb h => h.below hb, trivial⟩ ?_ ?_
       ·
        refine Dc (fun Wd hd => ?_) ?_
        ·
         exact Dd (dx_fld (o1 := 4) rfl ty_fld_26_4_4 rfl rfl) rfl
        refine Dc (fun Wd hd => ?_) ?_
        ·
         have k193 := k193.below hd
         exact Dd (dx_load rfl ty_one_24 rfl (k193.cell (k := 4) rfl)) rfl
        refine Dc (fun Wd hd => ?_) ?_
        ·
         exact Dd (dx_fld (o1 := 4) rfl ty_fld_26_4_4 rfl rfl) rfl
        refine Dc (fun Wd hd => ?_) ?_
        ·
         have k3 := k3.below hd
         exact Dd (dx_load rfl ty_one_24 rfl (k3.cell (k := 4) rfl)) rfl
        refine Dc (fun Wd hd => ?_) ?_
        ·
         exact Dd (dx_move rfl rfl) rfl
        refine Dc (fun Wd hd => ?_) ?_
        ·
         have hip := hip.below hd
         exact (dx_idxF i rfl ty_slice_24 rfl rfl hip (by omega) (at_mapX ht195)).mono (fun v W' h => ⟨by rw [← h.1]; exact Below.refl _ _, by rw [← h.1]; exact h.2⟩)
        refine Dc (fun Wd hd => ?_) ?_
        ·
         intro u12_5 p12_5
         exact Dd (dx_loadPN rfl ty_agg_26_5 rfl p12_5 rfl) rfl
        refine Dc (fun Wd hd => ?_) ?_
        ·
         exact (dx_lit1 (r := [.int .i64 t194.kind, .int .i64 t194.num, .string t194.text, t194.nv, t194.iv]) rfl ty_ap_24 (by decide) (by decide) rfl rfl rfl).mono (fun v W' h => ⟨h.2.1, h.1.notin (LL.below hL hd) (Nat.le_refl _)⟩)
        exact trivial
       ·
        intro W196 b197
        intro u12_5 p12_5
        intro u12_7 p12_7
        replace hnp := hnp.below b197
        replace hip := hip.below b197
        replace hcp := hcp.below b197
        replace hnq := hnq.below b197
        replace hiq := hiq.below b197
        replace hcq := hcq.below b197
        replace hag := hag.below b197
        replace k3 := k3.below b197
        replace k8 := k8.below b197
        replace k14 := k14.below b197
        replace k193 := k193.below b197
        replace k149 := k149.below b197
        replace k176 := k176.below b197
        replace hB := below_then hB b197
        replace hL := LL.below hL b197
        refine Ge (dx_apO' (rs := ([q].map encT)) (news := [encT t194]) rfl ty_ap_24 rfl rfl k149 (RdF.less (L' := []) p12_7 (fun x hx => by cases hx)) (fun r hr => by rw [List.mem_singleton.1 hr]; exact (hcp t194 (List.mem_of_getElem? ht195)).oc) (by simp only [List.length_map, List.length_append, List.length_cons, List.length_nil]; unfold maxLen; omega) (by simp only [List.length_map, List.length_append, List.length_cons, List.length_nil]; omega)) rfl rfl ?_
        rintro u198 W199 ⟨B204, k200, g203⟩
        rw [show ([q].map encT) ++ [encT t194] = (([q] ++ [t194]).map encT) from by simp only [List.map_append, List.map_cons, List.map_nil]] at k200
        have q206 := hag.2.1
        have l207 : b0 ≤ B204 := g203.le l155 (by omega)
        have n211 : W13.heap.size ≠ B204 := k193.grow_ne g203 n159
        have n214 : B180 ≠ B204 := k176.grow_ne g203 n190.symm
        have l205 := g203.le l163 hB.size
        replace hnp := hnp.grow' g203 (.tail _ (.head _))
        replace hip := hip.grow' g203 (.tail _ (.head _))
        replace hcp := hcp.grow' g203 (.tail _ (.head _))
        replace hnq := hnq.grow' g203 (.tail _ (.head _))
        replace hiq := hiq.grow' g203 (.tail _ (.head _))
        replace hcq := hcq.grow' g203 (.tail _ (.head _))
        replace hag := hag.grow' g203 (.tail _ (.head _))
        replace k3 := k3.grow g203 n156
        replace k8 := k8.grow g203 n157
        replace k14 := k14.grow g203 n158
        replace k193 := k193.grow g203 n159
        replace k176 := k176.grow g203 n190.symm
        replace hB := g203.below hB l163 hB.size
        replace hL := LL.grow hL g203 k200.lt
        refine Va (dx_fld (o1 := 4) rfl ty_fld_26_4_4 rfl rfl) rfl rfl ?_
        refine WL.do (dx_store (cs' := [.int .i64 6, .int .i64 0, .string ⟨#[]⟩, u174, u198]) (vs := [u198]) rfl ty_size_24_1 rfl rfl (oc_one k200.one) (oc_cons k200.one oc_nil) k193 rfl (Nat.le_of_ble_eq_true rfl) rfl) rfl ?_
        rintro _ W215 ⟨k217, o216⟩
        replace k3 := k3.other o216 n25
        replace k8 := k8.other o216 n26
        replace k14 := k14.other o216 n27
        replace k176 := k176.other o216 n187.symm
        replace k200 := k200.other o216 n211.symm
        clear k193
        replace hnp := hnp.only o216 (.tail _ (.tail _ (.tail _ (.tail _ (.tail _ (.tail _ (.head _)))))))
        replace hip := hip.only o216 (.tail _ (.tail _ (.tail _ (.tail _ (.tail _ (.tail _ (.head _)))))))
        replace hcp := hcp.only o216 (.tail _ (.tail _ (.tail _ (.tail _ (.tail _ (.tail _ (.head _)))))))
        replace hnq := hnq.only o216 (.tail _ (.tail _ (.tail _ (.tail _ (.tail _ (.tail _ (.head _)))))))
        replace hiq := hiq.only o216 (.tail _ (.tail _ (.tail _ (.tail _ (.tail _ (.tail _ (.head _)))))))
        replace hcq := hcq.only o216 (.tail _ (.tail _ (.tail _ (.tail _ (.tail _ (.tail _ (.head _)))))))
        replace hag := hag.only o216 (.tail _ (.tail _ (.tail _ (.tail _ (.tail _ (.tail _ (.head _)))))))
        replace hB := o216.below hB l28
        replace hL := LL.only hL o216
        refine Ni (hK40 (Rg (Pu rfl (Va (dx_add (r := (i : Int) + 1) rfl rfl rfl (wrap64_id (by omega))) rfl rfl (Pu rfl (Ni ?_))))))
        have eputN : ([name] ++ [r100]) = (putN p.names name).take (k + 2) := by rw [show ([name] ++ [r100]) = (putN p.names name).take k ++ ([name] ++ [r100]) from by rw [hns0]; rfl]; rw [← List.append_assoc]; rw [take_add n1]; rw [take_add n2]; (try rfl)
        have eputT : ([q] ++ [t194]) = (putT p.names name p.items q).take (k + 2) := by rw [show ([q] ++ [t194]) = (putT p.names name p.items q).take k ++ ([q] ++ [t194]) from by rw [hts0]; rfl]; rw [← List.append_assoc]; rw [take_add t1]; rw [take_add t2]; (try rfl)
        have hts2 : RdTs (n + 1) (B180 :: B204 :: W13.heap.size :: W7.heap.size :: W2.heap.size :: w.heap.size :: L) W215 ([q] ++ [t194]) := fun c hc_ => by
         simp only [List.mem_append, List.mem_singleton, or_assoc] at hc_
         rcases hc_ with h_ | h_
         · (rw [h_]; exact (show RdT (n + 1) (B204 :: B180 :: W135.heap.size :: W131.heap.size :: W106.heap.size :: W36.heap.size :: W13.heap.size :: W7.heap.size :: W2.heap.size :: w.heap.size :: L) W215 q from ⟨hnq, hiq, hcq⟩).less (fun x hx => by simp only [List.mem_cons] at hx ⊢; rcases hx with h_ | h_ | h_ <;> simp [h_]))
         · (rw [h_]; exact (hcp t194 (List.mem_of_getElem? ht195)).up.less (fun x hx => by simp only [List.mem_cons] at hx ⊢; rcases hx with h_ | h_ | h_ <;> simp [h_]))
        have hm2 : MembI (n + 1) b0 (W13.heap.size :: W7.heap.size :: W2.heap.size :: w.heap.size :: L) u174 ((putN p.names name).take (k + 2)) u198 ((putT p.names name p.items q).take (k + 2)) W215 := ⟨hb0L, .inr ⟨B180, B204, n214, by omega, by omega, (by rw [← eputN]; exact k176), (by rw [← eputT]; exact k200), (by rw [← eputT]; exact hts2)⟩⟩
        have hL_ := hL.less (fun x hx => (.tail _ (.tail _ (.tail _ (.tail _ (.tail _ (.tail _ hx)))))))
        replace hag : AgL W29 (W13.heap.size :: W7.heap.size :: W2.heap.size :: w.heap.size :: L) (W13.heap.size :: W7.heap.size :: W2.heap.size :: w.heap.size :: L) W215 := ⟨fun _ h _ => h, hag.2⟩
        replace hnp := hnp6.agree hag.2
        replace hip := hip6.agree hag.2
        replace hnq := hnq6.agree hag.2
        replace hiq := hiq6.agree hag.2
        replace hcp : RdTs n (W13.heap.size :: W7.heap.size :: W2.heap.size :: w.heap.size :: L) W215 p.items := fun c hc_ => (hcp6 c hc_).agree hag.2
        replace hcq : RdTs n (W13.heap.size :: W7.heap.size :: W2.heap.size :: w.heap.size :: L) W215 q.items := fun c hc_ => (hcq6 c hc_).agree hag.2
        replace hL := hL_
        exact hK35 (i + 1) (k + 2) u174 u198 ⟨(by omega), (by omega), (fun h_ => by omega), (fun h_ => by omega), hB, hL, hnp, hip, hcp, hnq, hiq, hcq, hag, hm2, k3, k8, k14, k217⟩ (by omega) (by repeat first | exact trivial | exact And.intro rfl trivial | refine And.intro rfl ?_ | refine And.intro (congrArg (fun z : Int => some (Value.int .i64 z)) (by omega)) ?_ | refine And.intro (congrArg (fun z : Bool => some (Value.bool z)) (by first | exact (decide_eq_true (by omega)).symm | exact (decide_eq_false (by omega)).symm)) ?_)
     ·
      replace c170 := bnot_f c170
      replace c170 := dT c170
      have hc0 := (putC_found (nm := name) hris (by rw [← (show r100 = name by first | assumption | exact Classical.not_not.1 (by assumption) | simp_all)]; exact e101)).1
      refine WC.skip (hK40 (Rg (Pu rfl (Va (dx_add (r := (i : Int) + 1) rfl rfl rfl (wrap64_id (by omega))) rfl rfl (Pu rfl (Ni ?_))))))
      have eputN : [name] = (putN p.names name).take (k + 1) := by rw [show [name] = (putN p.names name).take k ++ [name] from by rw [hns0]; rfl]; rw [take_add n1]; (try rfl)
      have eputT : [q] = (putT p.names name p.items q).take (k + 1) := by rw [show [q] = (putT p.names name p.items q).take k ++ [q] from by rw [hts0]; rfl]; rw [take_add t1]; (try rfl)
      have hts2 : RdTs (n + 1) (W106.heap.size :: W135.heap.size :: W13.heap.size :: W7.heap.size :: W2.heap.size :: w.heap.size :: L) W164 [q] := fun c hc_ => by
       simp only [List.mem_append, List.mem_singleton, or_assoc] at hc_
       have h_ := hc_
       (rw [h_]; exact (show RdT (n + 1) (W135.heap.size :: W131.heap.size :: W106.heap.size :: W36.heap.size :: W13.heap.size :: W7.heap.size :: W2.heap.size :: w.heap.size :: L) W164 q from ⟨hnq, hiq, hcq⟩).less (fun x hx => by simp only [List.mem_cons] at hx ⊢; rcases hx with h_ | h_ | h_ <;> simp [h_]))
      have hm2 : MembI (n + 1) b0 (W13.heap.size :: W7.heap.size :: W2.heap.size :: w.heap.size :: L) u116 ((putN p.names name).take (k + 1)) u147 ((putT p.names name p.items q).take (k + 1)) W164 := ⟨hb0L, .inr ⟨W106.heap.size, W135.heap.size, n161, by omega, by omega, (by rw [← eputN]; exact k118), (by rw [← eputT]; exact k149), (by rw [← eputT]; exact hts2)⟩⟩
      have hL_ := hL.less (fun x hx => (.tail _ (.tail _ (.tail _ (.tail _ hx)))))
      replace hag : AgL W29 (W13.heap.size :: W7.heap.size :: W2.heap.size :: w.heap.size :: L) (W13.heap.size :: W7.heap.size :: W2.heap.size :: w.heap.size :: L) W164 := ⟨fun _ h _ => h, hag.2⟩
      replace hnp := hnp6.agree hag.2
      replace hip := hip6.agree hag.2
      replace hnq := hnq6.agree hag.2
      replace hiq := hiq6.agree hag.2
      replace hcp : RdTs n (W13.heap.size :: W7.heap.size :: W2.heap.size :: w.heap.size :: L) W164 p.items := fun c hc_ => (hcp6 c hc_).agree hag.2
      replace hcq : RdTs n (W13.heap.size :: W7.heap.size :: W2.heap.size :: w.heap.size :: L) W164 q.items := fun c hc_ => (hcq6 c hc_).agree hag.2
      replace hL := hL_
      exact hK35 (i + 1) (k + 1) u116 u147 ⟨(by omega), (by omega), (fun h_ => by omega), (fun h_ => by omega), hB, hL, hnp, hip, hcp, hnq, hiq, hcq, hag, hm2, k3, k8, k14, k166⟩ (by omega) (by repeat first | exact trivial | exact And.intro rfl trivial | refine And.intro rfl ?_ | refine And.intro (congrArg (fun z : Int => some (Value.int .i64 z)) (by omega)) ?_ | refine And.intro (congrArg (fun z : Bool => some (Value.bool z)) (by first | exact (decide_eq_true (by omega)).symm | exact (decide_eq_false (by omega)).symm)) ?_)
    ·
     have n218 : Bn ≠ w.heap.size := by have := hb0L (w.heap.size) (.tail _ (.tail _ (.tail _ (.head _)))); omega
     have n219 : Bi ≠ w.heap.size := by have := hb0L (w.heap.size) (.tail _ (.tail _ (.tail _ (.head _)))); omega
     have n220 : Bn ≠ W2.heap.size := by have := hb0L (W2.heap.size) (.tail _ (.tail _ (.head _))); omega
     have n221 : Bi ≠ W2.heap.size := by have := hb0L (W2.heap.size) (.tail _ (.tail _ (.head _))); omega
     have n222 : Bn ≠ W7.heap.size := by have := hb0L (W7.heap.size) (.tail _ (.head _)); omega
     have n223 : Bi ≠ W7.heap.size := by have := hb0L (W7.heap.size) (.tail _ (.head _)); omega
     have n224 : Bn ≠ W13.heap.size := by have := hb0L (W13.heap.size) (.head _); omega
     have n225 : Bi ≠ W13.heap.size := by have := hb0L (W13.heap.size) (.head _); omega
     have lbn : w.heap.size ≤ Bn := by omega
     have lbi : w.heap.size ≤ Bi := by omega
     replace hag := (hag.add (B := Bi) (by omega)).add (B := Bn) (by omega)
     replace hL := LL.cons (LL.cons hL hOi.lt) hOn.lt
     replace hnp := hag.rd hnp6
     replace hip := hag.rd hip6
     replace hnq := hag.rd hnq6
     replace hiq := hag.rd hiq6
     replace hcp : RdTs n (Bn :: Bi :: W13.heap.size :: W7.heap.size :: W2.heap.size :: w.heap.size :: L) W36 p.items := fun c hc_ => hag.rt (hcp6 c hc_)
     replace hcq : RdTs n (Bn :: Bi :: W13.heap.size :: W7.heap.size :: W2.heap.size :: w.heap.size :: L) W36 q.items := fun c hc_ => hag.rt (hcq6 c hc_)
     refine Rg (Va (dx_fld (o1 := 3) rfl ty_fld_26_3_3 rfl rfl) rfl rfl (Va (dx_load rfl ty_one_23 rfl (k31.cell (k := 3) rfl)) rfl rfl (Pu rfl ?_)))
     refine Ge (dx_lit1 (r := [.string name]) rfl ty_ap_23 (by decide) (by decide) rfl rfl rfl) rfl rfl ?_
     rintro u230 W226 ⟨k227, b228, z229⟩
     have l237 := hB.size
     replace hnp := hnp.more b228 (Nat.le_refl _)
     replace hip := hip.more b228 (Nat.le_refl _)
     replace hcp := hcp.more b228 (Nat.le_refl _)
     replace hnq := hnq.more b228 (Nat.le_refl _)
     replace hiq := hiq.more b228 (Nat.le_refl _)
     replace hcq := hcq.more b228 (Nat.le_refl _)
     replace hag := hag.more b228 (Nat.le_refl _)
     replace hts := hts.more b228 (Nat.le_refl _)
     replace k3 := k3.below b228
     replace k8 := k8.below b228
     replace k14 := k14.below b228
     replace k31 := k31.below b228
     replace hOn := hOn.below b228
     replace hOi := hOi.below b228
     replace hB := below_then hB b228
     replace hL := LL.more hL z229
     refine Ge (dx_apO' (rs := (((putN p.names name).take k).map eS)) (news := [eS name]) rfl ty_ap_23 rfl rfl hOn (k227.rd (L := []) (by simp)) (fun r hr => by rw [List.mem_singleton.1 hr]; exact (oc_cons rfl oc_nil)) (by simp only [List.length_map, List.length_append, List.length_cons, List.length_nil]; unfold maxLen; omega) (by simp only [List.length_map, List.length_append, List.length_cons, List.length_nil]; omega)) rfl rfl ?_
     rintro u238 W239 ⟨B244, k240, g243⟩
     rw [show (((putN p.names name).take k).map eS) ++ [eS name] = ((((putN p.names name).take k) ++ [name]).map eS) from by simp only [List.map_append, List.map_cons, List.map_nil]] at k240
     have q246 := hag.2.1
     have l247 : b0 ≤ B244 := g243.le hbn (by omega)
     have n248 : w.heap.size ≠ B244 := k3.grow_ne g243 n218.symm
     have n249 : W2.heap.size ≠ B244 := k8.grow_ne g243 n220.symm
     have n250 : W7.heap.size ≠ B244 := k14.grow_ne g243 n222.symm
     have n251 : W13.heap.size ≠ B244 := k31.grow_ne g243 n224.symm
     have n252 : Bi ≠ B244 := hOi.grow_ne g243 hni.symm
     have l245 := g243.le lbn hB.size
     replace hnp := hnp.grow' g243 (.tail _ (.head _))
     replace hip := hip.grow' g243 (.tail _ (.head _))
     replace hcp := hcp.grow' g243 (.tail _ (.head _))
     replace hnq := hnq.grow' g243 (.tail _ (.head _))
     replace hiq := hiq.grow' g243 (.tail _ (.head _))
     replace hcq := hcq.grow' g243 (.tail _ (.head _))
     replace hag := hag.grow' g243 (.tail _ (.head _))
     replace hts := hts.grow' g243 (.tail _ (.head _))
     replace k3 := k3.grow g243 n218.symm
     replace k8 := k8.grow g243 n220.symm
     replace k14 := k14.grow g243 n222.symm
     replace k31 := k31.grow g243 n224.symm
     replace hOi := hOi.grow g243 hni.symm
     replace hB := g243.below hB lbn hB.size
     replace hL := LL.grow hL g243 k240.lt
     refine Va (dx_fld (o1 := 3) rfl ty_fld_26_3_3 rfl rfl) rfl rfl ?_
     refine WL.do (dx_store (cs' := [.int .i64 6, .int .i64 0, .string ⟨#[]⟩, u238, iv]) (vs := [u238]) rfl ty_size_23_1 rfl rfl (oc_one k240.one) (oc_cons k240.one oc_nil) k31 rfl (Nat.le_of_ble_eq_true rfl) rfl) rfl ?_
     rintro _ W254 ⟨k256, o255⟩
     replace k3 := k3.other o255 n25
     replace k8 := k8.other o255 n26
     replace k14 := k14.other o255 n27
     replace hOi := hOi.other o255 n225
     replace k240 := k240.other o255 n251.symm
     clear k31
     replace hnp := hnp.only o255 (.tail _ (.tail _ (.tail _ (.tail _ (.head _)))))
     replace hip := hip.only o255 (.tail _ (.tail _ (.tail _ (.tail _ (.head _)))))
     replace hcp := hcp.only o255 (.tail _ (.tail _ (.tail _ (.tail _ (.head _)))))
     replace hnq := hnq.only o255 (.tail _ (.tail _ (.tail _ (.tail _ (.head _)))))
     replace hiq := hiq.only o255 (.tail _ (.tail _ (.tail _ (.tail _ (.head _)))))
     replace hcq := hcq.only o255 (.tail _ (.tail _ (.tail _ (.tail _ (.head _)))))
     replace hag := hag.only o255 (.tail _ (.tail _ (.tail _ (.tail _ (.head _)))))
     replace hts := hts.only o255 (.tail _ (.tail _ (.tail _ (.tail _ (.head _)))))
     replace hB := o255.below hB l28
     replace hL := LL.only hL o255
     refine Ni (hK105 (Sq fun K257 hK257 => (Rg (Va (dx_fld (o1 := 4) rfl ty_fld_26_4_4 rfl rfl) rfl rfl (Va (dx_load rfl ty_one_24 rfl (k256.cell (k := 4) rfl)) rfl rfl (Va (dx_loadN rfl ty_agg_26_5 rfl k8.range rfl) rfl rfl ?_))))))
     refine Ge (dx_lit1 (r := [.int .i64 q.kind, .int .i64 q.num, .string q.text, q.nv, q.iv]) rfl ty_ap_24 (by decide) (by decide) rfl rfl rfl) rfl rfl ?_
     rintro u262 W258 ⟨k259, b260, z261⟩
     have l270 := hB.size
     replace hnp := hnp.more b260 (Nat.le_refl _)
     replace hip := hip.more b260 (Nat.le_refl _)
     replace hcp := hcp.more b260 (Nat.le_refl _)
     replace hnq := hnq.more b260 (Nat.le_refl _)
     replace hiq := hiq.more b260 (Nat.le_refl _)
     replace hcq := hcq.more b260 (Nat.le_refl _)
     replace hag := hag.more b260 (Nat.le_refl _)
     replace hts := hts.more b260 (Nat.le_refl _)
     replace k3 := k3.below b260
     replace k8 := k8.below b260
     replace k14 := k14.below b260
     replace k256 := k256.below b260
     replace hOi := hOi.below b260
     replace k240 := k240.below b260
     replace hB := below_then hB b260
     replace hL := LL.more hL z261
     refine Ge (dx_apO' (rs := (((putT p.names name p.items q).take k).map encT)) (news := [encT q]) rfl ty_ap_24 rfl rfl hOi (k259.rd (L := []) (by simp)) (fun r hr => by rw [List.mem_singleton.1 hr]; exact (show RdT (n + 1) (W254.heap.size :: B244 :: W36.heap.size :: Bn :: Bi :: W13.heap.size :: W7.heap.size :: W2.heap.size :: w.heap.size :: L) W258 q from ⟨hnq, hiq, hcq⟩).oc) (by simp only [List.length_map, List.length_append, List.length_cons, List.length_nil]; unfold maxLen; omega) (by simp only [List.length_map, List.length_append, List.length_cons, List.length_nil]; omega)) rfl rfl ?_
     rintro u271 W272 ⟨B277, k273, g276⟩
     rw [show (((putT p.names name p.items q).take k).map encT) ++ [encT q] = ((((putT p.names name p.items q).take k) ++ [q]).map encT) from by simp only [List.map_append, List.map_cons, List.map_nil]] at k273
     have q279 := hag.2.1
     have l280 : b0 ≤ B277 := g276.le hbi (by omega)
     have n281 : w.heap.size ≠ B277 := k3.grow_ne g276 n219.symm
     have n282 : W2.heap.size ≠ B277 := k8.grow_ne g276 n221.symm
     have n283 : W7.heap.size ≠ B277 := k14.grow_ne g276 n223.symm
     have n284 : W13.heap.size ≠ B277 := k256.grow_ne g276 n225.symm
     have n286 : B244 ≠ B277 := k240.grow_ne g276 n252.symm
     have l278 := g276.le lbi hB.size
     replace hnp := hnp.grow' g276 (.tail _ (.tail _ (.tail _ (.tail _ (.head _)))))
     replace hip := hip.grow' g276 (.tail _ (.tail _ (.tail _ (.tail _ (.head _)))))
     replace hcp := hcp.grow' g276 (.tail _ (.tail _ (.tail _ (.tail _ (.head _)))))
     replace hnq := hnq.grow' g276 (.tail _ (.tail _ (.tail _ (.tail _ (.head _)))))
     replace hiq := hiq.grow' g276 (.tail _ (.tail _ (.tail _ (.tail _ (.head _)))))
     replace hcq := hcq.grow' g276 (.tail _ (.tail _ (.tail _ (.tail _ (.head _)))))
     replace hag := hag.grow' g276 (.tail _ (.tail _ (.tail _ (.tail _ (.head _)))))
     replace hts := hts.grow' g276 (.tail _ (.tail _ (.tail _ (.tail _ (.head _)))))
     replace k3 := k3.grow g276 n219.symm
     replace k8 := k8.grow g276 n221.symm
     replace k14 := k14.grow g276 n223.symm
     replace k256 := k256.grow g276 n225.symm
     replace k240 := k240.grow g276 n252.symm
     replace hB := g276.below hB lbi hB.size
     replace hL := LL.grow hL g276 k273.lt
     refine Va (dx_fld (o1 := 4) rfl ty_fld_26_4_4 rfl rfl) rfl rfl ?_
     refine WL.do (dx_store (cs' := [.int .i64 6, .int .i64 0, .string ⟨#[]⟩, u238, u271]) (vs := [u271]) rfl ty_size_24_1 rfl rfl (oc_one k273.one) (oc_cons k273.one oc_nil) k256 rfl (Nat.le_of_ble_eq_true rfl) rfl) rfl ?_
     rintro _ W288 ⟨k290, o289⟩
     replace k3 := k3.other o289 n25
     replace k8 := k8.other o289 n26
     replace k14 := k14.other o289 n27
     replace k240 := k240.other o289 n251.symm
     replace k273 := k273.other o289 n284.symm
     clear k256
     replace hnp := hnp.only o289 (.tail _ (.tail _ (.tail _ (.tail _ (.tail _ (.tail _ (.head _)))))))
     replace hip := hip.only o289 (.tail _ (.tail _ (.tail _ (.tail _ (.tail _ (.tail _ (.head _)))))))
     replace hcp := hcp.only o289 (.tail _ (.tail _ (.tail _ (.tail _ (.tail _ (.tail _ (.head _)))))))
     replace hnq := hnq.only o289 (.tail _ (.tail _ (.tail _ (.tail _ (.tail _ (.tail _ (.head _)))))))
     replace hiq := hiq.only o289 (.tail _ (.tail _ (.tail _ (.tail _ (.tail _ (.tail _ (.head _)))))))
     replace hcq := hcq.only o289 (.tail _ (.tail _ (.tail _ (.tail _ (.tail _ (.tail _ (.head _)))))))
     replace hag := hag.only o289 (.tail _ (.tail _ (.tail _ (.tail _ (.tail _ (.tail _ (.head _)))))))
     replace hts := hts.only o289 (.tail _ (.tail _ (.tail _ (.tail _ (.tail _ (.tail _ (.head _)))))))
     replace hB := o289.below hB l28
     replace hL := LL.only hL o289
     refine Ni (hK257 (Rg (Pu rfl (Ni (hK41 (Sq fun K291 hK291 => (Rg ?_)))))))
     refine Va (dx_fld (o1 := 3) rfl ty_fld_26_3_3 rfl rfl) rfl rfl (Va (dx_load rfl ty_one_23 rfl (k3.cell (k := 3) rfl)) rfl rfl (Pu rfl ?_))
     refine Ge (dx_idxF i rfl ty_slice_23 rfl rfl hnp (by omega) (at_mapX e101)) rfl rfl ?_
     rintro u292 _ ⟨rfl, p293⟩
     refine Va (dx_loadP rfl ty_one_9 rfl p293) rfl rfl (Pu rfl (Va (dx_neqT rfl rfl rfl) rfl rfl (Ni (hK291 ?_))))
     refine WC.cond rfl (fun c294 => ?_) (fun c294 => ?_)
     ·
      replace c294 := bnot_t c294
      replace c294 := dF c294
      refine Sq fun K295 hK295 => ?_
      have hne : ¬ r100 = name := by first | assumption | simp_all
      have hc1 : putC p.names name = 1 := putC_not (by rw [← ha_, ← hia]; exact e101) hne
      have n2 : (putN p.names name)[k + 1]? = some r100 := by have h_ := putN_ge (nm := name) (i := i) (by omega) e101 hne; rw [hc1] at h_; rw [show k = i by omega]; exact h_
      refine WC.drawM 8 [(some 48, .is (.pointer (some ⟨W13.heap.size, 3, none⟩))), (some 49, .is (u238)), (some 50, .is (.pointer (some ⟨w.heap.size, 3, none⟩))), (some 51, .is (p.nv)), (some 52, .is (.int .i64 (i : Int))), (some 53, .by fun u W => PtR (B277 :: W254.heap.size :: B244 :: W36.heap.size :: Bn :: Bi :: W13.heap.size :: W7.heap.size :: W2.heap.size :: w.heap.size :: L) W u [.string r100]), (some 54, .is (.string r100)), (some 55, .by fun u W => RdF 1 (B277 :: W254.heap.size :: B244 :: W36.heap.size :: Bn :: Bi :: W13.heap.size :: W7.heap.size :: W2.heap.size :: w.heap.size :: L) W u [[.string r100]])] [[], [0], [], [2], [], [3, 4], [5], [6]] (by kernel_rfl) (by kernel_rfl) (by kernel_rfl) (by kernel_rfl) (by kernel_rfl) (by kernel_rfl) (by kernel_rfl) ⟨fun _ _ _ hb h => h.below hb, fun _ _ _ hb h => h.below hb, trivial⟩ ?_ ?_
      ·
       refine Dc (fun Wd hd => ?_) ?_
       ·
        exact Dd (dx_fld (o1 := 3) rfl ty_fld_26_3_3 rfl rfl) rfl
       refine Dc (fun Wd hd => ?_) ?_
       ·
        have k290 := k290.below hd
        exact Dd (dx_load rfl ty_one_23 rfl (k290.cell (k := 3) rfl)) rfl
       refine Dc (fun Wd hd => ?_) ?_
       ·
        exact Dd (dx_fld (o1 := 3) rfl ty_fld_26_3_3 rfl rfl) rfl
       refine Dc (fun Wd hd => ?_) ?_
       ·
        have k3 := k3.below hd
        exact Dd (dx_load rfl ty_one_23 rfl (k3.cell (k := 3) rfl)) rfl
       refine Dc (fun Wd hd => ?_) ?_
       ·
        exact Dd (dx_move rfl rfl) rfl
       refine Dc (fun Wd hd => ?_) ?_
       ·
        have hnp := hnp.below hd
        exact (dx_idxF i rfl ty_slice_23 rfl rfl hnp (by omega) (at_mapX e101)).mono (fun v W' h => ⟨by rw [← h.1]; exact Below.refl _ _, by rw [← h.1]; exact h.2⟩)
       refine Dc (fun Wd hd => ?_) ?_
       ·
        intro u11_5 p11_5
        exact Dd (dx_loadP rfl ty_one_9 rfl p11_5) rfl
       refine Dc (fun Wd hd => ?_) ?_
       ·
        exact (dx_lit1 (r := [.string r100]) rfl ty_ap_23 (by decide) (by decide) rfl rfl rfl).mono (fun v W' h => ⟨h.2.1, h.1.notin (LL.below hL hd) (Nat.le_refl _)⟩)
       exact trivial
      ·
       intro W296 b297
       intro u11_5 p11_5
       intro u11_7 p11_7
       replace hnp := hnp.below b297
       replace hip := hip.below b297
       replace hcp := hcp.below b297
       replace hnq := hnq.below b297
       replace hiq := hiq.below b297
       replace hcq := hcq.below b297
       replace hag := hag.below b297
       replace hts := hts.below b297
       replace k3 := k3.below b297
       replace k8 := k8.below b297
       replace k14 := k14.below b297
       replace k290 := k290.below b297
       replace k240 := k240.below b297
       replace k273 := k273.below b297
       replace hB := below_then hB b297
       replace hL := LL.below hL b297
       refine Ge (dx_apO' (rs := ((((putN p.names name).take k) ++ [name]).map eS)) (news := [eS r100]) rfl ty_ap_23 rfl rfl k240 (RdF.less (L' := []) p11_7 (fun x hx => by cases hx)) (fun r hr => by rw [List.mem_singleton.1 hr]; exact (oc_cons rfl oc_nil)) (by simp only [List.length_map, List.length_append, List.length_cons, List.length_nil]; unfold maxLen; omega) (by simp only [List.length_map, List.length_append, List.length_cons, List.length_nil]; omega)) rfl rfl ?_
       rintro u298 W299 ⟨B304, k300, g303⟩
       rw [show ((((putN p.names name).take k) ++ [name]).map eS) ++ [eS r100] = (((((putN p.names name).take k) ++ [name]) ++ [r100]).map eS) from by simp only [List.map_append, List.map_cons, List.map_nil]] at k300
       have q306 := hag.2.1
       have l307 : b0 ≤ B304 := g303.le l247 (by omega)
       have n311 : W13.heap.size ≠ B304 := k290.grow_ne g303 n251
       have n314 : B277 ≠ B304 := k273.grow_ne g303 n286.symm
       have l305 := g303.le l245 hB.size
       replace hnp := hnp.grow' g303 (.tail _ (.tail _ (.head _)))
       replace hip := hip.grow' g303 (.tail _ (.tail _ (.head _)))
       replace hcp := hcp.grow' g303 (.tail _ (.tail _ (.head _)))
       replace hnq := hnq.grow' g303 (.tail _ (.tail _ (.head _)))
       replace hiq := hiq.grow' g303 (.tail _ (.tail _ (.head _)))
       replace hcq := hcq.grow' g303 (.tail _ (.tail _ (.head _)))
       replace hag := hag.grow' g303 (.tail _ (.tail _ (.head _)))
       replace hts := hts.grow' g303 (.tail _ (.tail _ (.head _)))
       replace k3 := k3.grow g303 n248
       replace k8 := k8.grow g303 n249
       replace k14 := k14.grow g303 n250
       replace k290 := k290.grow g303 n251
       replace k273 := k273.grow g303 n286.symm
       replace hB := g303.below hB l245 hB.size
       replace hL := LL.grow hL g303 k300.lt
       refine Va (dx_fld (o1 := 3) rfl ty_fld_26_3_3 rfl rfl) rfl rfl ?_
       refine WL.do (dx_store (cs' := [.int .i64 6, .int .i64 0, .string ⟨#[]⟩, u298, u271]) (vs := [u298]) rfl ty_size_23_1 rfl rfl (oc_one k300.one) (oc_cons k300.one oc_nil) k290 rfl (Nat.le_of_ble_eq_true rfl) rfl) rfl ?_
       rintro _ W315 ⟨k317, o316⟩
       replace k3 := k3.other o316 n25
       replace k8 := k8.other o316 n26
       replace k14 := k14.other o316 n27
       replace k273 := k273.other o316 n284.symm
       replace k300 := k300.other o316 n311.symm
       clear k290
       replace hnp := hnp.only o316 (.tail _ (.tail _ (.tail _ (.tail _ (.tail _ (.tail _ (.tail _ (.head _))))))))
       replace hip := hip.only o316 (.tail _ (.tail _ (.tail _ (.tail _ (.tail _ (.tail _ (.tail _ (.head _))))))))
       replace hcp := hcp.only o316 (.tail _ (.tail _ (.tail _ (.tail _ (.tail _ (.tail _ (.tail _ (.head _))))))))
       replace hnq := hnq.only o316 (.tail _ (.tail _ (.tail _ (.tail _ (.tail _ (.tail _ (.tail _ (.head _))))))))
       replace hiq := hiq.only o316 (.tail _ (.tail _ (.tail _ (.tail _ (.tail _ (.tail _ (.tail _ (.head _))))))))
       replace hcq := hcq.only o316 (.tail _ (.tail _ (.tail _ (.tail _ (.tail _ (.tail _ (.tail _ (.head _))))))))
       replace hag := hag.only o316 (.tail _ (.tail _ (.tail _ (.tail _ (.tail _ (.tail _ (.tail _ (.head _))))))))
       replace hts := hts.only o316 (.tail _ (.tail _ (.tail _ (.tail _ (.tail _ (.tail _ (.tail _ (.head _))))))))
       replace hB := o316.below hB l28
       replace hL := LL.only hL o316
       refine Ni (hK295 ?_)
       obtain ⟨t318, ht319⟩ : ∃ x, p.items[i]? = some x := ⟨_, List.getElem?_eq_getElem (by omega)⟩
       have hot318 := (hcp t318 (List.mem_of_getElem? ht319))
       obtain ⟨hnt318, hit318, hct318⟩ : RdF 1 (B304 :: B277 :: W254.heap.size :: B244 :: W36.heap.size :: Bn :: Bi :: W13.heap.size :: W7.heap.size :: W2.heap.size :: w.heap.size :: L) W315 t318.nv (t318.names.map eS) ∧ RdF 5 (B304 :: B277 :: W254.heap.size :: B244 :: W36.heap.size :: Bn :: Bi :: W13.heap.size :: W7.heap.size :: W2.heap.size :: w.heap.size :: L) W315 t318.iv (t318.items.map encT) ∧ ∀ c ∈ t318.items, RdT n (B304 :: B277 :: W254.heap.size :: B244 :: W36.heap.size :: Bn :: Bi :: W13.heap.size :: W7.heap.size :: W2.heap.size :: w.heap.size :: L) W315 c := by cases n with | zero => exact hot318.elim | succ n => exact ⟨hot318.1, hot318.2.1, fun c hc => (hot318.2.2 c hc).up⟩
       have t2 : (putT p.names name p.items q)[k + 1]? = some t318 := by have h_ := putT_ge (x := q) hlen (i := i) (by omega) e101 hne ht319; rw [hc1] at h_; rw [show k = i by omega]; exact h_
       refine WC.drawM 8 [(some 58, .is (.pointer (some ⟨W13.heap.size, 4, none⟩))), (some 59, .is (u271)), (some 60, .is (.pointer (some ⟨w.heap.size, 4, none⟩))), (some 61, .is (p.iv)), (some 62, .is (.int .i64 (i : Int))), (some 63, .by fun u W => PtR (B304 :: B277 :: W254.heap.size :: B244 :: W36.heap.size :: Bn :: Bi :: W13.heap.size :: W7.heap.size :: W2.heap.size :: w.heap.size :: L) W u (encT t318)), (some 64, .is (.agg #[.int .i64 t318.kind, .int .i64 t318.num, .string t318.text, t318.nv, t318.iv])), (some 65, .by fun u W => RdF 5 (B304 :: B277 :: W254.heap.size :: B244 :: W36.heap.size :: Bn :: Bi :: W13.heap.size :: W7.heap.size :: W2.heap.size :: w.heap.size :: L) W u [[.int .i64 t318.kind, .int .i64 t318.num, .string t318.text, t318.nv, t318.iv]])] [[], [0], [], [2], [], [3, 4], [5], [6]] (by kernel_rfl) (by kernel_rfl) (by kernel_rfl) (by kernel_rfl) (by kernel_rfl) (by kernel_rfl) (by kernel_rfl) ⟨fun _ _ _ hb h => h.below hb, fun _ _ _ hb h => h.below hb, trivial⟩ ?_ ?_
       ·
        refine Dc (fun Wd hd => ?_) ?_
        ·
         exact Dd (dx_fld (o1 := 4) rfl ty_fld_26_4_4 rfl rfl) rfl
        refine Dc (fun Wd hd => ?_) ?_
        ·
         have k317 := k317.below hd
         exact Dd (dx_load rfl ty_one_24 rfl (k317.cell (k := 4) rfl)) rfl
        refine Dc (fun Wd hd => ?_) ?_
        ·
         exact Dd (dx_fld (o1 := 4) rfl ty_fld_26_4_4 rfl rfl) rfl
        refine Dc (fun Wd hd => ?_) ?_
        ·
         have k3 := k3.below hd
         exact Dd (dx_load rfl ty_one_24 rfl (k3.cell (k := 4) rfl)) rfl
        refine Dc (fun Wd hd => ?_) ?_
        ·
         exact Dd (dx_move rfl rfl) rfl
        refine Dc (fun Wd hd => ?_) ?_
        ·
         have hip := hip.below hd
         exact (dx_idxF i rfl ty_slice_24 rfl rfl hip (by omega) (at_mapX ht319)).mono (fun v W' h => ⟨by rw [← h.1]; exact Below.refl _ _, by rw [← h.1]; exact h.2⟩)
        refine Dc (fun Wd hd => ?_) ?_
        ·
         intro u12_5 p12_5
         exact Dd (dx_loadPN rfl ty_agg_26_5 rfl p12_5 rfl) rfl
        refine Dc (fun Wd hd => ?_) ?_
        ·
         exact (dx_lit1 (r := [.int .i64 t318.kind, .int .i64 t318.num, .string t318.text, t318.nv, t318.iv]) rfl ty_ap_24 (by decide) (by decide) rfl rfl rfl).mono (fun v W' h => ⟨h.2.1, h.1.notin (LL.below hL hd) (Nat.le_refl _)⟩)
        exact trivial
       ·
        intro W320 b321
        intro u12_5 p12_5
        intro u12_7 p12_7
        replace hnp := hnp.below b321
        replace hip := hip.below b321
        replace hcp := hcp.below b321
        replace hnq := hnq.below b321
        replace hiq := hiq.below b321
        replace hcq := hcq.below b321
        replace hag := hag.below b321
        replace hts := hts.below b321
        replace k3 := k3.below b321
        replace k8 := k8.below b321
        replace k14 := k14.below b321
        replace k317 := k317.below b321
        replace k273 := k273.below b321
        replace k300 := k300.below b321
        replace hB := below_then hB b321
        replace hL := LL.below hL b321
        refine Ge (dx_apO' (rs := ((((putT p.names name p.items q).take k) ++ [q]).map encT)) (news := [encT t318]) rfl ty_ap_24 rfl rfl k273 (RdF.less (L' := []) p12_7 (fun x hx => by cases hx)) (fun r hr => by rw [List.mem_singleton.1 hr]; exact (hcp t318 (List.mem_of_getElem? ht319)).oc) (by simp only [List.length_map, List.length_append, List.length_cons, List.length_nil]; unfold maxLen; omega) (by simp only [List.length_map, List.length_append, List.length_cons, List.length_nil]; omega)) rfl rfl ?_
        rintro u322 W323 ⟨B328, k324, g327⟩
        rw [show ((((putT p.names name p.items q).take k) ++ [q]).map encT) ++ [encT t318] = (((((putT p.names name p.items q).take k) ++ [q]) ++ [t318]).map encT) from by simp only [List.map_append, List.map_cons, List.map_nil]] at k324
        have q330 := hag.2.1
        have l331 : b0 ≤ B328 := g327.le l280 (by omega)
        have n335 : W13.heap.size ≠ B328 := k317.grow_ne g327 n284
        have n338 : B304 ≠ B328 := k300.grow_ne g327 n314.symm
        have l329 := g327.le l278 hB.size
        replace hnp := hnp.grow' g327 (.tail _ (.head _))
        replace hip := hip.grow' g327 (.tail _ (.head _))
        replace hcp := hcp.grow' g327 (.tail _ (.head _))
        replace hnq := hnq.grow' g327 (.tail _ (.head _))
        replace hiq := hiq.grow' g327 (.tail _ (.head _))
        replace hcq := hcq.grow' g327 (.tail _ (.head _))
        replace hag := hag.grow' g327 (.tail _ (.head _))
        replace hts := hts.grow' g327 (.tail _ (.head _))
        replace k3 := k3.grow g327 n281
        replace k8 := k8.grow g327 n282
        replace k14 := k14.grow g327 n283
        replace k317 := k317.grow g327 n284
        replace k300 := k300.grow g327 n314.symm
        replace hB := g327.below hB l278 hB.size
        replace hL := LL.grow hL g327 k324.lt
        refine Va (dx_fld (o1 := 4) rfl ty_fld_26_4_4 rfl rfl) rfl rfl ?_
        refine WL.do (dx_store (cs' := [.int .i64 6, .int .i64 0, .string ⟨#[]⟩, u298, u322]) (vs := [u322]) rfl ty_size_24_1 rfl rfl (oc_one k324.one) (oc_cons k324.one oc_nil) k317 rfl (Nat.le_of_ble_eq_true rfl) rfl) rfl ?_
        rintro _ W339 ⟨k341, o340⟩
        replace k3 := k3.other o340 n25
        replace k8 := k8.other o340 n26
        replace k14 := k14.other o340 n27
        replace k300 := k300.other o340 n311.symm
        replace k324 := k324.other o340 n335.symm
        clear k317
        replace hnp := hnp.only o340 (.tail _ (.tail _ (.tail _ (.tail _ (.tail _ (.tail _ (.tail _ (.tail _ (.head _)))))))))
        replace hip := hip.only o340 (.tail _ (.tail _ (.tail _ (.tail _ (.tail _ (.tail _ (.tail _ (.tail _ (.head _)))))))))
        replace hcp := hcp.only o340 (.tail _ (.tail _ (.tail _ (.tail _ (.tail _ (.tail _ (.tail _ (.tail _ (.head _)))))))))
        replace hnq := hnq.only o340 (.tail _ (.tail _ (.tail _ (.tail _ (.tail _ (.tail _ (.tail _ (.tail _ (.head _)))))))))
        replace hiq := hiq.only o340 (.tail _ (.tail _ (.tail _ (.tail _ (.tail _ (.tail _ (.tail _ (.tail _ (.head _)))))))))
        replace hcq := hcq.only o340 (.tail _ (.tail _ (.tail _ (.tail _ (.tail _ (.tail _ (.tail _ (.tail _ (.head _)))))))))
        replace hag := hag.only o340 (.tail _ (.tail _ (.tail _ (.tail _ (.tail _ (.tail _ (.tail _ (.tail _ (.head _)))))))))
        replace hts := hts.only o340 (.tail _ (.tail _ (.tail _ (.tail _ (.tail _ (.tail _ (.tail _ (.tail _ (.head _)))))))))
        replace hB := o340.below hB l28
        replace hL := LL.only hL o340
        refine Ni (hK40 (Rg (Pu rfl (Va (dx_add (r := (i : Int) + 1) rfl rfl rfl (wrap64_id (by omega))) rfl rfl (Pu rfl (Ni ?_))))))
        have eputN : ((((putN p.names name).take k) ++ [name]) ++ [r100]) = (putN p.names name).take (k + 2) := by rw [take_add n1]; rw [take_add n2]; (try rfl)
        have eputT : ((((putT p.names name p.items q).take k) ++ [q]) ++ [t318]) = (putT p.names name p.items q).take (k + 2) := by rw [take_add t1]; rw [take_add t2]; (try rfl)
        have hts2 : RdTs (n + 1) (B304 :: B328 :: W13.heap.size :: W7.heap.size :: W2.heap.size :: w.heap.size :: L) W339 ((((putT p.names name p.items q).take k) ++ [q]) ++ [t318]) := fun c hc_ => by
         simp only [List.mem_append, List.mem_singleton, or_assoc] at hc_
         rcases hc_ with h_ | h_ | h_
         · exact (hts c h_).less (fun x hx => by simp only [List.mem_cons] at hx ⊢; rcases hx with h_ | h_ | h_ <;> simp [h_])
         · (rw [h_]; exact (show RdT (n + 1) (B328 :: B304 :: B277 :: W254.heap.size :: B244 :: W36.heap.size :: Bn :: Bi :: W13.heap.size :: W7.heap.size :: W2.heap.size :: w.heap.size :: L) W339 q from ⟨hnq, hiq, hcq⟩).less (fun x hx => by simp only [List.mem_cons] at hx ⊢; rcases hx with h_ | h_ | h_ <;> simp [h_]))
         · (rw [h_]; exact (hcp t318 (List.mem_of_getElem? ht319)).up.less (fun x hx => by simp only [List.mem_cons] at hx ⊢; rcases hx with h_ | h_ | h_ <;> simp [h_]))
        have hm2 : MembI (n + 1) b0 (W13.heap.size :: W7.heap.size :: W2.heap.size :: w.heap.size :: L) u298 ((putN p.names name).take (k + 2)) u322 ((putT p.names name p.items q).take (k + 2)) W339 := ⟨hb0L, .inr ⟨B304, B328, n338, by omega, by omega, (by rw [← eputN]; exact k300), (by rw [← eputT]; exact k324), (by rw [← eputT]; exact hts2)⟩⟩
        have hL_ := hL.less (fun x hx => (.tail _ (.tail _ (.tail _ (.tail _ (.tail _ (.tail _ (.tail _ (.tail _ hx)))))))))
        replace hag : AgL W29 (W13.heap.size :: W7.heap.size :: W2.heap.size :: w.heap.size :: L) (W13.heap.size :: W7.heap.size :: W2.heap.size :: w.heap.size :: L) W339 := ⟨fun _ h _ => h, hag.2⟩
        replace hnp := hnp6.agree hag.2
        replace hip := hip6.agree hag.2
        replace hnq := hnq6.agree hag.2
        replace hiq := hiq6.agree hag.2
        replace hcp : RdTs n (W13.heap.size :: W7.heap.size :: W2.heap.size :: w.heap.size :: L) W339 p.items := fun c hc_ => (hcp6 c hc_).agree hag.2
        replace hcq : RdTs n (W13.heap.size :: W7.heap.size :: W2.heap.size :: w.heap.size :: L) W339 q.items := fun c hc_ => (hcq6 c hc_).agree hag.2
        replace hL := hL_
        exact hK35 (i + 1) (k + 2) u298 u322 ⟨(by omega), (by omega), (fun h_ => by omega), (fun h_ => by omega), hB, hL, hnp, hip, hcp, hnq, hiq, hcq, hag, hm2, k3, k8, k14, k341⟩ (by omega) (by repeat first | exact trivial | exact And.intro rfl trivial | refine And.intro rfl ?_ | refine And.intro (congrArg (fun z : Int => some (Value.int .i64 z)) (by omega)) ?_ | refine And.intro (congrArg (fun z : Bool => some (Value.bool z)) (by first | exact (decide_eq_true (by omega)).symm | exact (decide_eq_false (by omega)).symm)) ?_)
     ·
      replace c294 := bnot_f c294
      replace c294 := dT c294
      have hc0 := (putC_found (nm := name) hris (by rw [← (show r100 = name by first | assumption | exact Classical.not_not.1 (by assumption) | simp_all)]; exact e101)).1
      refine WC.skip (hK40 (Rg (Pu rfl (Va (dx_add (r := (i : Int) + 1) rfl rfl rfl (wrap64_id (by omega))) rfl rfl (Pu rfl (Ni ?_))))))
      have eputN : (((putN p.names name).take k) ++ [name]) = (putN p.names name).take (k + 1) := by rw [take_add n1]; (try rfl)
      have eputT : (((putT p.names name p.items q).take k) ++ [q]) = (putT p.names name p.items q).take (k + 1) := by rw [take_add t1]; (try rfl)
      have hts2 : RdTs (n + 1) (B244 :: B277 :: W13.heap.size :: W7.heap.size :: W2.heap.size :: w.heap.size :: L) W288 (((putT p.names name p.items q).take k) ++ [q]) := fun c hc_ => by
       simp only [List.mem_append, List.mem_singleton, or_assoc] at hc_
       rcases hc_ with h_ | h_
       · exact (hts c h_).less (fun x hx => by simp only [List.mem_cons] at hx ⊢; rcases hx with h_ | h_ | h_ <;> simp [h_])
       · (rw [h_]; exact (show RdT (n + 1) (B277 :: W254.heap.size :: B244 :: W36.heap.size :: Bn :: Bi :: W13.heap.size :: W7.heap.size :: W2.heap.size :: w.heap.size :: L) W288 q from ⟨hnq, hiq, hcq⟩).less (fun x hx => by simp only [List.mem_cons] at hx ⊢; rcases hx with h_ | h_ | h_ <;> simp [h_]))
      have hm2 : MembI (n + 1) b0 (W13.heap.size :: W7.heap.size :: W2.heap.size :: w.heap.size :: L) u238 ((putN p.names name).take (k + 1)) u271 ((putT p.names name p.items q).take (k + 1)) W288 := ⟨hb0L, .inr ⟨B244, B277, n286, by omega, by omega, (by rw [← eputN]; exact k240), (by rw [← eputT]; exact k273), (by rw [← eputT]; exact hts2)⟩⟩
      have hL_ := hL.less (fun x hx => (.tail _ (.tail _ (.tail _ (.tail _ (.tail _ (.tail _ hx)))))))
      replace hag : AgL W29 (W13.heap.size :: W7.heap.size :: W2.heap.size :: w.heap.size :: L) (W13.heap.size :: W7.heap.size :: W2.heap.size :: w.heap.size :: L) W288 := ⟨fun _ h _ => h, hag.2⟩
      replace hnp := hnp6.agree hag.2
      replace hip := hip6.agree hag.2
      replace hnq := hnq6.agree hag.2
      replace hiq := hiq6.agree hag.2
      replace hcp : RdTs n (W13.heap.size :: W7.heap.size :: W2.heap.size :: w.heap.size :: L) W288 p.items := fun c hc_ => (hcp6 c hc_).agree hag.2
      replace hcq : RdTs n (W13.heap.size :: W7.heap.size :: W2.heap.size :: w.heap.size :: L) W288 q.items := fun c hc_ => (hcq6 c hc_).agree hag.2
      replace hL := hL_
      exact hK35 (i + 1) (k + 1) u238 u271 ⟨(by omega), (by omega), (fun h_ => by omega), (fun h_ => by omega), hB, hL, hnp, hip, hcp, hnq, hiq, hcq, hag, hm2, k3, k8, k14, k290⟩ (by omega) (by repeat first | exact trivial | exact And.intro rfl trivial | refine And.intro rfl ?_ | refine And.intro (congrArg (fun z : Int => some (Value.int .i64 z)) (by omega)) ?_ | refine And.intro (congrArg (fun z : Bool => some (Value.bool z)) (by first | exact (decide_eq_true (by omega)).symm | exact (decide_eq_false (by omega)).symm)) ?_)
   ·
    replace c104 := bnot_f c104
    have hsl : sless r100 name = true := by first | assumption | simp_all
    refine WC.skip (hK41 (Sq fun K342 hK342 => (Rg (Va (dx_fld (o1 := 3) rfl ty_fld_26_3_3 rfl rfl) rfl rfl (Va (dx_load rfl ty_one_23 rfl (k3.cell (k := 3) rfl)) rfl rfl (Pu rfl ?_))))))
    refine Ge (dx_idxF i rfl ty_slice_23 rfl rfl hnp (by omega) (at_mapX e101)) rfl rfl ?_
    rintro u343 _ ⟨rfl, p344⟩
    refine Va (dx_loadP rfl ty_one_9 rfl p344) rfl rfl (Pu rfl (Va (dx_neqT rfl rfl rfl) rfl rfl (Ni (hK342 ?_))))
    refine WC.cond rfl (fun c345 => ?_) (fun c345 => ?_)
    ·
     replace c345 := bnot_t c345
     replace c345 := dF c345
     refine Sq fun K346 hK346 => ?_
     have hne : ¬ r100 = name := by first | assumption | simp_all
     obtain ⟨-, hm⟩ := hm
     have hlN : ((putN p.names name).take k).length ≤ p.names.length + 1 ∧ ((putT p.names name p.items q).take k).length ≤ p.names.length + 1 := ⟨by rw [List.length_take]; omega, by rw [List.length_take]; omega⟩
     rcases hm with ⟨rfl, rfl, hns0, hts0⟩ | ⟨Bn, Bi, hni, hbn, hbi, hOn, hOi, hts⟩
     ·
      have hilt := lb_not e101 hris hsl
      have n2 : (putN p.names name)[k]? = some r100 := by rw [hkk, putN_lt hilt]; exact e101
      refine WC.drawM 8 [(some 48, .is (.pointer (some ⟨W13.heap.size, 3, none⟩))), (some 49, .is (.slice none 0 0)), (some 50, .is (.pointer (some ⟨w.heap.size, 3, none⟩))), (some 51, .is (p.nv)), (some 52, .is (.int .i64 (i : Int))), (some 53, .by fun u W => PtR (W13.heap.size :: W7.heap.size :: W2.heap.size :: w.heap.size :: L) W u [.string r100]), (some 54, .is (.string r100)), (some 55, .by fun u W => RdF 1 (W13.heap.size :: W7.heap.size :: W2.heap.size :: w.heap.size :: L) W u [[.string r100]])] [[], [0], [], [2], [], [3, 4], [5], [6]] (by kernel_rfl) (by kernel_rfl) (by kernel_rfl) (by kernel_rfl) (by kernel_rfl) (by kernel_rfl) (by kernel_rfl) ⟨fun _ _ _ hb h => h.below hb, fun _ _ _ hb h => h.below hb, trivial⟩ ?_ ?_
      ·
       refine Dc (fun Wd hd => ?_) ?_
       ·
        exact Dd (dx_fld (o1 := 3) rfl ty_fld_26_3_3 rfl rfl) rfl
       refine Dc (fun Wd hd => ?_) ?_
       ·
        have k31 := k31.below hd
        exact Dd (dx_load rfl ty_one_23 rfl (k31.cell (k := 3) rfl)) rfl
       refine Dc (fun Wd hd => ?_) ?_
       ·
        exact Dd (dx_fld (o1 := 3) rfl ty_fld_26_3_3 rfl rfl) rfl
       refine Dc (fun Wd hd => ?_) ?_
       ·
        have k3 := k3.below hd
        exact Dd (dx_load rfl ty_one_23 rfl (k3.cell (k := 3) rfl)) rfl
       refine Dc (fun Wd hd => ?_) ?_
       ·
        exact Dd (dx_move rfl rfl) rfl
       refine Dc (fun Wd hd => ?_) ?_
       ·
        have hnp := hnp.below hd
        exact (dx_idxF i rfl ty_slice_23 rfl rfl hnp (by omega) (at_mapX e101)).mono (fun v W' h => ⟨by rw [← h.1]; exact Below.refl _ _, by rw [← h.1]; exact h.2⟩)
       refine Dc (fun Wd hd => ?_) ?_
       ·
        intro u11_5 p11_5
        exact Dd (dx_loadP rfl ty_one_9 rfl p11_5) rfl
       refine Dc (fun Wd hd => ?_) ?_
       ·
        exact (dx_lit1 (r := [.string r100]) rfl ty_ap_23 (by decide) (by decide) rfl rfl rfl).mono (fun v W' h => ⟨h.2.1, h.1.notin (LL.below hL hd) (Nat.le_refl _)⟩)
       exact trivial
      ·
       intro W347 b348
       intro u11_5 p11_5
       intro u11_7 p11_7
       replace hnp := hnp.below b348
       replace hip := hip.below b348
       replace hcp := hcp.below b348
       replace hnq := hnq.below b348
       replace hiq := hiq.below b348
       replace hcq := hcq.below b348
       replace hag := hag.below b348
       replace k3 := k3.below b348
       replace k8 := k8.below b348
       replace k14 := k14.below b348
       replace k31 := k31.below b348
       replace hB := below_then hB b348
       replace hL := LL.below hL b348
       refine Ge (dx_apF (rs := []) (news := [eS r100]) rfl ty_ap_23 rfl rfl (RdF.nil (L := []) (by decide)) (RdF.less (L' := []) p11_7 (fun x hx => by cases hx)) (by simp) (by simp [maxLen]) (by simp)) rfl rfl ?_
       rintro u349 W350 ⟨k351, b352, z353⟩
       have q356 := hag.2.1
       have l357 : b0 ≤ W347.heap.size := by omega
       have n361 : W13.heap.size ≠ W347.heap.size := Nat.ne_of_lt k31.lt
       have l362 := hB.size
       replace hnp := hnp.more b352 (Nat.le_refl _)
       replace hip := hip.more b352 (Nat.le_refl _)
       replace hcp := hcp.more b352 (Nat.le_refl _)
       replace hnq := hnq.more b352 (Nat.le_refl _)
       replace hiq := hiq.more b352 (Nat.le_refl _)
       replace hcq := hcq.more b352 (Nat.le_refl _)
       replace hag := hag.more b352 (Nat.le_refl _)
       replace k3 := k3.below b352
       replace k8 := k8.below b352
       replace k14 := k14.below b352
       replace k31 := k31.below b352
       replace hB := below_then hB b352
       replace hL := LL.more hL z353
       refine Va (dx_fld (o1 := 3) rfl ty_fld_26_3_3 rfl rfl) rfl rfl ?_
       refine WL.do (dx_store (cs' := [.int .i64 6, .int .i64 0, .string ⟨#[]⟩, u349, .slice none 0 0]) (vs := [u349]) rfl ty_size_23_1 rfl rfl (oc_one k351.one) (oc_cons k351.one oc_nil) k31 rfl (Nat.le_of_ble_eq_true rfl) rfl) rfl ?_
       rintro _ W363 ⟨k365, o364⟩
       replace k3 := k3.other o364 n25
       replace k8 := k8.other o364 n26
       replace k14 := k14.other o364 n27
       replace k351 := k351.other o364 n361.symm
       clear k31
       replace hnp := hnp.only o364 (.tail _ (.head _))
       replace hip := hip.only o364 (.tail _ (.head _))
       replace hcp := hcp.only o364 (.tail _ (.head _))
       replace hnq := hnq.only o364 (.tail _ (.head _))
       replace hiq := hiq.only o364 (.tail _ (.head _))
       replace hcq := hcq.only o364 (.tail _ (.head _))
       replace hag := hag.only o364 (.tail _ (.head _))
       replace hB := o364.below hB l28
       replace hL := LL.only hL o364
       refine Ni (hK346 ?_)
       obtain ⟨t366, ht367⟩ : ∃ x, p.items[i]? = some x := ⟨_, List.getElem?_eq_getElem (by omega)⟩
       have hot366 := (hcp t366 (List.mem_of_getElem? ht367))
       obtain ⟨hnt366, hit366, hct366⟩ : RdF 1 (W347.heap.size :: W13.heap.size :: W7.heap.size :: W2.heap.size :: w.heap.size :: L) W363 t366.nv (t366.names.map eS) ∧ RdF 5 (W347.heap.size :: W13.heap.size :: W7.heap.size :: W2.heap.size :: w.heap.size :: L) W363 t366.iv (t366.items.map encT) ∧ ∀ c ∈ t366.items, RdT n (W347.heap.size :: W13.heap.size :: W7.heap.size :: W2.heap.size :: w.heap.size :: L) W363 c := by cases n with | zero => exact hot366.elim | succ n => exact ⟨hot366.1, hot366.2.1, fun c hc => (hot366.2.2 c hc).up⟩
       have t2 : (putT p.names name p.items q)[k]? = some t366 := by rw [hkk, putT_lt hlen hilt]; exact ht367
       refine WC.drawM 8 [(some 58, .is (.pointer (some ⟨W13.heap.size, 4, none⟩))), (some 59, .is (.slice none 0 0)), (some 60, .is (.pointer (some ⟨w.heap.size, 4, none⟩))), (some 61, .is (p.iv)), (some 62, .is (.int .i64 (i : Int))), (some 63, .by fun u W => PtR (W347.heap.size :: W13.heap.size :: W7.heap.size :: W2.heap.size :: w.heap.size :: L) W u (encT t366)), (some 64, .is (.agg #[.int .i64 t366.kind, .int .i64 t366.num, .string t366.text, t366.nv, t366.iv])), (some 65, .by fun u W => RdF 5 (W347.heap.size :: W13.heap.size :: W7.heap.size :: W2.heap.size :: w.heap.size :: L) W u [[.int .i64 t366.kind, .int .i64 t366.num, .string t366.text, t366.nv, t366.iv]])] [[], [0], [], [2], [], [3, 4], [5], [6]] (by kernel_rfl) (by kernel_rfl) (by kernel_rfl) (by kernel_rfl) (by kernel_rfl) (by kernel_rfl) (by kernel_rfl) ⟨fun _ _ _ hb h => h.below hb, fun _ _ _ hb h => h.below hb, trivial⟩ ?_ ?_
       ·
        refine Dc (fun Wd hd => ?_) ?_
        ·
         exact Dd (dx_fld (o1 := 4) rfl ty_fld_26_4_4 rfl rfl) rfl
        refine Dc (fun Wd hd => ?_) ?_
        ·
         have k365 := k365.below hd
         exact Dd (dx_load rfl ty_one_24 rfl (k365.cell (k := 4) rfl)) rfl
        refine Dc (fun Wd hd => ?_) ?_
        ·
         exact Dd (dx_fld (o1 := 4) rfl ty_fld_26_4_4 rfl rfl) rfl
        refine Dc (fun Wd hd => ?_) ?_
        ·
         have k3 := k3.below hd
         exact Dd (dx_load rfl ty_one_24 rfl (k3.cell (k := 4) rfl)) rfl
        refine Dc (fun Wd hd => ?_) ?_
        ·
         exact Dd (dx_move rfl rfl) rfl
        refine Dc (fun Wd hd => ?_) ?_
        ·
         have hip := hip.below hd
         exact (dx_idxF i rfl ty_slice_24 rfl rfl hip (by omega) (at_mapX ht367)).mono (fun v W' h => ⟨by rw [← h.1]; exact Below.refl _ _, by rw [← h.1]; exact h.2⟩)
        refine Dc (fun Wd hd => ?_) ?_
        ·
         intro u12_5 p12_5
         exact Dd (dx_loadPN rfl ty_agg_26_5 rfl p12_5 rfl) rfl
        refine Dc (fun Wd hd => ?_) ?_
        ·
         exact (dx_lit1 (r := [.int .i64 t366.kind, .int .i64 t366.num, .string t366.text, t366.nv, t366.iv]) rfl ty_ap_24 (by decide) (by decide) rfl rfl rfl).mono (fun v W' h => ⟨h.2.1, h.1.notin (LL.below hL hd) (Nat.le_refl _)⟩)
        exact trivial
       ·
        intro W368 b369
        intro u12_5 p12_5
        intro u12_7 p12_7
        replace hnp := hnp.below b369
        replace hip := hip.below b369
        replace hcp := hcp.below b369
        replace hnq := hnq.below b369
        replace hiq := hiq.below b369
        replace hcq := hcq.below b369
        replace hag := hag.below b369
        replace k3 := k3.below b369
        replace k8 := k8.below b369
        replace k14 := k14.below b369
        replace k365 := k365.below b369
        replace k351 := k351.below b369
        replace hB := below_then hB b369
        replace hL := LL.below hL b369
        refine Ge (dx_apF (rs := []) (news := [encT t366]) rfl ty_ap_24 rfl rfl (RdF.nil (L := []) (by decide)) (RdF.less (L' := []) p12_7 (fun x hx => by cases hx)) (by simp) (by simp [maxLen]) (by simp)) rfl rfl ?_
        rintro u370 W371 ⟨k372, b373, z374⟩
        have q377 := hag.2.1
        have l378 : b0 ≤ W368.heap.size := by omega
        have n382 : W13.heap.size ≠ W368.heap.size := Nat.ne_of_lt k365.lt
        have n383 : W347.heap.size ≠ W368.heap.size := Nat.ne_of_lt k351.lt
        have l384 := hB.size
        replace hnp := hnp.more b373 (Nat.le_refl _)
        replace hip := hip.more b373 (Nat.le_refl _)
        replace hcp := hcp.more b373 (Nat.le_refl _)
        replace hnq := hnq.more b373 (Nat.le_refl _)
        replace hiq := hiq.more b373 (Nat.le_refl _)
        replace hcq := hcq.more b373 (Nat.le_refl _)
        replace hag := hag.more b373 (Nat.le_refl _)
        replace k3 := k3.below b373
        replace k8 := k8.below b373
        replace k14 := k14.below b373
        replace k365 := k365.below b373
        replace k351 := k351.below b373
        replace hB := below_then hB b373
        replace hL := LL.more hL z374
        refine Va (dx_fld (o1 := 4) rfl ty_fld_26_4_4 rfl rfl) rfl rfl ?_
        refine WL.do (dx_store (cs' := [.int .i64 6, .int .i64 0, .string ⟨#[]⟩, u349, u370]) (vs := [u370]) rfl ty_size_24_1 rfl rfl (oc_one k372.one) (oc_cons k372.one oc_nil) k365 rfl (Nat.le_of_ble_eq_true rfl) rfl) rfl ?_
        rintro _ W385 ⟨k387, o386⟩
        replace k3 := k3.other o386 n25
        replace k8 := k8.other o386 n26
        replace k14 := k14.other o386 n27
        replace k351 := k351.other o386 n361.symm
        replace k372 := k372.other o386 n382.symm
        clear k365
        replace hnp := hnp.only o386 (.tail _ (.tail _ (.head _)))
        replace hip := hip.only o386 (.tail _ (.tail _ (.head _)))
        replace hcp := hcp.only o386 (.tail _ (.tail _ (.head _)))
        replace hnq := hnq.only o386 (.tail _ (.tail _ (.head _)))
        replace hiq := hiq.only o386 (.tail _ (.tail _ (.head _)))
        replace hcq := hcq.only o386 (.tail _ (.tail _ (.head _)))
        replace hag := hag.only o386 (.tail _ (.tail _ (.head _)))
        replace hB := o386.below hB l28
        replace hL := LL.only hL o386
        refine Ni (hK40 (Rg (Pu rfl (Va (dx_add (r := (i : Int) + 1) rfl rfl rfl (wrap64_id (by omega))) rfl rfl (Pu rfl (Ni ?_))))))
        have eputN : [r100] = (putN p.names name).take (k + 1) := by rw [show [r100] = (putN p.names name).take k ++ [r100] from by rw [hns0]; rfl]; rw [take_add n2]; (try rfl)
        have eputT : [t366] = (putT p.names name p.items q).take (k + 1) := by rw [show [t366] = (putT p.names name p.items q).take k ++ [t366] from by rw [hts0]; rfl]; rw [take_add t2]; (try rfl)
        have hts2 : RdTs (n + 1) (W347.heap.size :: W368.heap.size :: W13.heap.size :: W7.heap.size :: W2.heap.size :: w.heap.size :: L) W385 [t366] := fun c hc_ => by
         simp only [List.mem_append, List.mem_singleton, or_assoc] at hc_
         have h_ := hc_
         (rw [h_]; exact (hcp t366 (List.mem_of_getElem? ht367)).up.less (fun x hx => by simp only [List.mem_cons] at hx ⊢; rcases hx with h_ | h_ | h_ <;> simp [h_]))
        have hm2 : MembI (n + 1) b0 (W13.heap.size :: W7.heap.size :: W2.heap.size :: w.heap.size :: L) u349 ((putN p.names name).take (k + 1)) u370 ((putT p.names name p.items q).take (k + 1)) W385 := ⟨hb0L, .inr ⟨W347.heap.size, W368.heap.size, n383, by omega, by omega, (by rw [← eputN]; exact k351), (by rw [← eputT]; exact k372), (by rw [← eputT]; exact hts2)⟩⟩
        have hL_ := hL.less (fun x hx => (.tail _ (.tail _ hx)))
        replace hag : AgL W29 (W13.heap.size :: W7.heap.size :: W2.heap.size :: w.heap.size :: L) (W13.heap.size :: W7.heap.size :: W2.heap.size :: w.heap.size :: L) W385 := ⟨fun _ h _ => h, hag.2⟩
        replace hnp := hnp6.agree hag.2
        replace hip := hip6.agree hag.2
        replace hnq := hnq6.agree hag.2
        replace hiq := hiq6.agree hag.2
        replace hcp : RdTs n (W13.heap.size :: W7.heap.size :: W2.heap.size :: w.heap.size :: L) W385 p.items := fun c hc_ => (hcp6 c hc_).agree hag.2
        replace hcq : RdTs n (W13.heap.size :: W7.heap.size :: W2.heap.size :: w.heap.size :: L) W385 q.items := fun c hc_ => (hcq6 c hc_).agree hag.2
        replace hL := hL_
        exact hK35 (i + 1) (k + 1) u349 u370 ⟨(by omega), (by omega), (fun h_ => by omega), (fun h_ => by omega), hB, hL, hnp, hip, hcp, hnq, hiq, hcq, hag, hm2, k3, k8, k14, k387⟩ (by omega) (by repeat first | exact trivial | exact And.intro rfl trivial | refine And.intro rfl ?_ | refine And.intro (congrArg (fun z : Int => some (Value.int .i64 z)) (by omega)) ?_ | refine And.intro (congrArg (fun z : Bool => some (Value.bool z)) (by first | exact (decide_eq_true (by omega)).symm | exact (decide_eq_false (by omega)).symm)) ?_)
     ·
      have n388 : Bn ≠ w.heap.size := by have := hb0L (w.heap.size) (.tail _ (.tail _ (.tail _ (.head _)))); omega
      have n389 : Bi ≠ w.heap.size := by have := hb0L (w.heap.size) (.tail _ (.tail _ (.tail _ (.head _)))); omega
      have n390 : Bn ≠ W2.heap.size := by have := hb0L (W2.heap.size) (.tail _ (.tail _ (.head _))); omega
      have n391 : Bi ≠ W2.heap.size := by have := hb0L (W2.heap.size) (.tail _ (.tail _ (.head _))); omega
      have n392 : Bn ≠ W7.heap.size := by have := hb0L (W7.heap.size) (.tail _ (.head _)); omega
      have n393 : Bi ≠ W7.heap.size := by have := hb0L (W7.heap.size) (.tail _ (.head _)); omega
      have n394 : Bn ≠ W13.heap.size := by have := hb0L (W13.heap.size) (.head _); omega
      have n395 : Bi ≠ W13.heap.size := by have := hb0L (W13.heap.size) (.head _); omega
      have lbn : w.heap.size ≤ Bn := by omega
      have lbi : w.heap.size ≤ Bi := by omega
      replace hag := (hag.add (B := Bi) (by omega)).add (B := Bn) (by omega)
      replace hL := LL.cons (LL.cons hL hOi.lt) hOn.lt
      replace hnp := hag.rd hnp6
      replace hip := hag.rd hip6
      replace hnq := hag.rd hnq6
      replace hiq := hag.rd hiq6
      replace hcp : RdTs n (Bn :: Bi :: W13.heap.size :: W7.heap.size :: W2.heap.size :: w.heap.size :: L) W36 p.items := fun c hc_ => hag.rt (hcp6 c hc_)
      replace hcq : RdTs n (Bn :: Bi :: W13.heap.size :: W7.heap.size :: W2.heap.size :: w.heap.size :: L) W36 q.items := fun c hc_ => hag.rt (hcq6 c hc_)
      have hilt := lb_not e101 hris hsl
      have n2 : (putN p.names name)[k]? = some r100 := by rw [hkk, putN_lt hilt]; exact e101
      refine WC.drawM 8 [(some 48, .is (.pointer (some ⟨W13.heap.size, 3, none⟩))), (some 49, .is (nv)), (some 50, .is (.pointer (some ⟨w.heap.size, 3, none⟩))), (some 51, .is (p.nv)), (some 52, .is (.int .i64 (i : Int))), (some 53, .by fun u W => PtR (Bn :: Bi :: W13.heap.size :: W7.heap.size :: W2.heap.size :: w.heap.size :: L) W u [.string r100]), (some 54, .is (.string r100)), (some 55, .by fun u W => RdF 1 (Bn :: Bi :: W13.heap.size :: W7.heap.size :: W2.heap.size :: w.heap.size :: L) W u [[.string r100]])] [[], [0], [], [2], [], [3, 4], [5], [6]] (by kernel_rfl) (by kernel_rfl) (by kernel_rfl) (by kernel_rfl) (by kernel_rfl) (by kernel_rfl) (by kernel_rfl) ⟨fun _ _ _ hb h => h.below hb, fun _ _ _ hb h => h.below hb, trivial⟩ ?_ ?_
      ·
       refine Dc (fun Wd hd => ?_) ?_
       ·
        exact Dd (dx_fld (o1 := 3) rfl ty_fld_26_3_3 rfl rfl) rfl
       refine Dc (fun Wd hd => ?_) ?_
       ·
        have k31 := k31.below hd
        exact Dd (dx_load rfl ty_one_23 rfl (k31.cell (k := 3) rfl)) rfl
       refine Dc (fun Wd hd => ?_) ?_
       ·
        exact Dd (dx_fld (o1 := 3) rfl ty_fld_26_3_3 rfl rfl) rfl
       refine Dc (fun Wd hd => ?_) ?_
       ·
        have k3 := k3.below hd
        exact Dd (dx_load rfl ty_one_23 rfl (k3.cell (k := 3) rfl)) rfl
       refine Dc (fun Wd hd => ?_) ?_
       ·
        exact Dd (dx_move rfl rfl) rfl
       refine Dc (fun Wd hd => ?_) ?_
       ·
        have hnp := hnp.below hd
        exact (dx_idxF i rfl ty_slice_23 rfl rfl hnp (by omega) (at_mapX e101)).mono (fun v W' h => ⟨by rw [← h.1]; exact Below.refl _ _, by rw [← h.1]; exact h.2⟩)
       refine Dc (fun Wd hd => ?_) ?_
       ·
        intro u11_5 p11_5
        exact Dd (dx_loadP rfl ty_one_9 rfl p11_5) rfl
       refine Dc (fun Wd hd => ?_) ?_
       ·
        exact (dx_lit1 (r := [.string r100]) rfl ty_ap_23 (by decide) (by decide) rfl rfl rfl).mono (fun v W' h => ⟨h.2.1, h.1.notin (LL.below hL hd) (Nat.le_refl _)⟩)
       exact trivial
      ·
       intro W396 b397
       intro u11_5 p11_5
       intro u11_7 p11_7
       replace hnp := hnp.below b397
       replace hip := hip.below b397
       replace hcp := hcp.below b397
       replace hnq := hnq.below b397
       replace hiq := hiq.below b397
       replace hcq := hcq.below b397
       replace hag := hag.below b397
       replace hts := hts.below b397
       replace k3 := k3.below b397
       replace k8 := k8.below b397
       replace k14 := k14.below b397
       replace k31 := k31.below b397
       replace hOn := hOn.below b397
       replace hOi := hOi.below b397
       replace hB := below_then hB b397
       replace hL := LL.below hL b397
       refine Ge (dx_apO' (rs := (((putN p.names name).take k).map eS)) (news := [eS r100]) rfl ty_ap_23 rfl rfl hOn (RdF.less (L' := []) p11_7 (fun x hx => by cases hx)) (fun r hr => by rw [List.mem_singleton.1 hr]; exact (oc_cons rfl oc_nil)) (by simp only [List.length_map, List.length_append, List.length_cons, List.length_nil]; unfold maxLen; omega) (by simp only [List.length_map, List.length_append, List.length_cons, List.length_nil]; omega)) rfl rfl ?_
       rintro u398 W399 ⟨B404, k400, g403⟩
       rw [show (((putN p.names name).take k).map eS) ++ [eS r100] = ((((putN p.names name).take k) ++ [r100]).map eS) from by simp only [List.map_append, List.map_cons, List.map_nil]] at k400
       have q406 := hag.2.1
       have l407 : b0 ≤ B404 := g403.le hbn (by omega)
       have n411 : W13.heap.size ≠ B404 := k31.grow_ne g403 n394.symm
       have n412 : Bi ≠ B404 := hOi.grow_ne g403 hni.symm
       have l405 := g403.le lbn hB.size
       replace hnp := hnp.grow' g403 (.head _)
       replace hip := hip.grow' g403 (.head _)
       replace hcp := hcp.grow' g403 (.head _)
       replace hnq := hnq.grow' g403 (.head _)
       replace hiq := hiq.grow' g403 (.head _)
       replace hcq := hcq.grow' g403 (.head _)
       replace hag := hag.grow' g403 (.head _)
       replace hts := hts.grow' g403 (.head _)
       replace k3 := k3.grow g403 n388.symm
       replace k8 := k8.grow g403 n390.symm
       replace k14 := k14.grow g403 n392.symm
       replace k31 := k31.grow g403 n394.symm
       replace hOi := hOi.grow g403 hni.symm
       replace hB := g403.below hB lbn hB.size
       replace hL := LL.grow hL g403 k400.lt
       refine Va (dx_fld (o1 := 3) rfl ty_fld_26_3_3 rfl rfl) rfl rfl ?_
       refine WL.do (dx_store (cs' := [.int .i64 6, .int .i64 0, .string ⟨#[]⟩, u398, iv]) (vs := [u398]) rfl ty_size_23_1 rfl rfl (oc_one k400.one) (oc_cons k400.one oc_nil) k31 rfl (Nat.le_of_ble_eq_true rfl) rfl) rfl ?_
       rintro _ W413 ⟨k415, o414⟩
       replace k3 := k3.other o414 n25
       replace k8 := k8.other o414 n26
       replace k14 := k14.other o414 n27
       replace hOi := hOi.other o414 n395
       replace k400 := k400.other o414 n411.symm
       clear k31
       replace hnp := hnp.only o414 (.tail _ (.tail _ (.tail _ (.head _))))
       replace hip := hip.only o414 (.tail _ (.tail _ (.tail _ (.head _))))
       replace hcp := hcp.only o414 (.tail _ (.tail _ (.tail _ (.head _))))
       replace hnq := hnq.only o414 (.tail _ (.tail _ (.tail _ (.head _))))
       replace hiq := hiq.only o414 (.tail _ (.tail _ (.tail _ (.head _))))
       replace hcq := hcq.only o414 (.tail _ (.tail _ (.tail _ (.head _))))
       replace hag := hag.only o414 (.tail _ (.tail _ (.tail _ (.head _))))
       replace hts := hts.only o414 (.tail _ (.tail _ (.tail _ (.head _))))
       replace hB := o414.below hB l28
       replace hL := LL.only hL o414
       refine Ni (hK346 ?_)
       obtain ⟨t416, ht417⟩ : ∃ x, p.items[i]? = some x := ⟨_, List.getElem?_eq_getElem (by omega)⟩
       have hot416 := (hcp t416 (List.mem_of_getElem? ht417))
       obtain ⟨hnt416, hit416, hct416⟩ : RdF 1 (B404 :: Bn :: Bi :: W13.heap.size :: W7.heap.size :: W2.heap.size :: w.heap.size :: L) W413 t416.nv (t416.names.map eS) ∧ RdF 5 (B404 :: Bn :: Bi :: W13.heap.size :: W7.heap.size :: W2.heap.size :: w.heap.size :: L) W413 t416.iv (t416.items.map encT) ∧ ∀ c ∈ t416.items, RdT n (B404 :: Bn :: Bi :: W13.heap.size :: W7.heap.size :: W2.heap.size :: w.heap.size :: L) W413 c := by cases n with | zero => exact hot416.elim | succ n => exact ⟨hot416.1, hot416.2.1, fun c hc => (hot416.2.2 c hc).up⟩
       have t2 : (putT p.names name p.items q)[k]? = some t416 := by rw [hkk, putT_lt hlen hilt]; exact ht417
       refine WC.drawM 8 [(some 58, .is (.pointer (some ⟨W13.heap.size, 4, none⟩))), (some 59, .is (iv)), (some 60, .is (.pointer (some ⟨w.heap.size, 4, none⟩))), (some 61, .is (p.iv)), (some 62, .is (.int .i64 (i : Int))), (some 63, .by fun u W => PtR (B404 :: Bn :: Bi :: W13.heap.size :: W7.heap.size :: W2.heap.size :: w.heap.size :: L) W u (encT t416)), (some 64, .is (.agg #[.int .i64 t416.kind, .int .i64 t416.num, .string t416.text, t416.nv, t416.iv])), (some 65, .by fun u W => RdF 5 (B404 :: Bn :: Bi :: W13.heap.size :: W7.heap.size :: W2.heap.size :: w.heap.size :: L) W u [[.int .i64 t416.kind, .int .i64 t416.num, .string t416.text, t416.nv, t416.iv]])] [[], [0], [], [2], [], [3, 4], [5], [6]] (by kernel_rfl) (by kernel_rfl) (by kernel_rfl) (by kernel_rfl) (by kernel_rfl) (by kernel_rfl) (by kernel_rfl) ⟨fun _ _ _ hb h => h.below hb, fun _ _ _ hb h => h.below hb, trivial⟩ ?_ ?_
       ·
        refine Dc (fun Wd hd => ?_) ?_
        ·
         exact Dd (dx_fld (o1 := 4) rfl ty_fld_26_4_4 rfl rfl) rfl
        refine Dc (fun Wd hd => ?_) ?_
        ·
         have k415 := k415.below hd
         exact Dd (dx_load rfl ty_one_24 rfl (k415.cell (k := 4) rfl)) rfl
        refine Dc (fun Wd hd => ?_) ?_
        ·
         exact Dd (dx_fld (o1 := 4) rfl ty_fld_26_4_4 rfl rfl) rfl
        refine Dc (fun Wd hd => ?_) ?_
        ·
         have k3 := k3.below hd
         exact Dd (dx_load rfl ty_one_24 rfl (k3.cell (k := 4) rfl)) rfl
        refine Dc (fun Wd hd => ?_) ?_
        ·
         exact Dd (dx_move rfl rfl) rfl
        refine Dc (fun Wd hd => ?_) ?_
        ·
         have hip := hip.below hd
         exact (dx_idxF i rfl ty_slice_24 rfl rfl hip (by omega) (at_mapX ht417)).mono (fun v W' h => ⟨by rw [← h.1]; exact Below.refl _ _, by rw [← h.1]; exact h.2⟩)
        refine Dc (fun Wd hd => ?_) ?_
        ·
         intro u12_5 p12_5
         exact Dd (dx_loadPN rfl ty_agg_26_5 rfl p12_5 rfl) rfl
        refine Dc (fun Wd hd => ?_) ?_
        ·
         exact (dx_lit1 (r := [.int .i64 t416.kind, .int .i64 t416.num, .string t416.text, t416.nv, t416.iv]) rfl ty_ap_24 (by decide) (by decide) rfl rfl rfl).mono (fun v W' h => ⟨h.2.1, h.1.notin (LL.below hL hd) (Nat.le_refl _)⟩)
        exact trivial
       ·
        intro W418 b419
        intro u12_5 p12_5
        intro u12_7 p12_7
        replace hnp := hnp.below b419
        replace hip := hip.below b419
        replace hcp := hcp.below b419
        replace hnq := hnq.below b419
        replace hiq := hiq.below b419
        replace hcq := hcq.below b419
        replace hag := hag.below b419
        replace hts := hts.below b419
        replace k3 := k3.below b419
        replace k8 := k8.below b419
        replace k14 := k14.below b419
        replace k415 := k415.below b419
        replace hOi := hOi.below b419
        replace k400 := k400.below b419
        replace hB := below_then hB b419
        replace hL := LL.below hL b419
        refine Ge (dx_apO' (rs := (((putT p.names name p.items q).take k).map encT)) (news := [encT t416]) rfl ty_ap_24 rfl rfl hOi (RdF.less (L' := []) p12_7 (fun x hx => by cases hx)) (fun r hr => by rw [List.mem_singleton.1 hr]; exact (hcp t416 (List.mem_of_getElem? ht417)).oc) (by simp only [List.length_map, List.length_append, List.length_cons, List.length_nil]; unfold maxLen; omega) (by simp only [List.length_map, List.length_append, List.length_cons, List.length_nil]; omega)) rfl rfl ?_
        rintro u420 W421 ⟨B426, k422, g425⟩
        rw [show (((putT p.names name p.items q).take k).map encT) ++ [encT t416] = ((((putT p.names name p.items q).take k) ++ [t416]).map encT) from by simp only [List.map_append, List.map_cons, List.map_nil]] at k422
        have q428 := hag.2.1
        have l429 : b0 ≤ B426 := g425.le hbi (by omega)
        have n433 : W13.heap.size ≠ B426 := k415.grow_ne g425 n395.symm
        have n434 : B404 ≠ B426 := k400.grow_ne g425 n412.symm
        have l427 := g425.le lbi hB.size
        replace hnp := hnp.grow' g425 (.tail _ (.tail _ (.head _)))
        replace hip := hip.grow' g425 (.tail _ (.tail _ (.head _)))
        replace hcp := hcp.grow' g425 (.tail _ (.tail _ (.head _)))
        replace hnq := hnq.grow' g425 (.tail _ (.tail _ (.head _)))
        replace hiq := hiq.grow' g425 (.tail _ (.tail _ (.head _)))
        replace hcq := hcq.grow' g425 (.tail _ (.tail _ (.head _)))
        replace hag := hag.grow' g425 (.tail _ (.tail _ (.head _)))
        replace hts := hts.grow' g425 (.tail _ (.tail _ (.head _)))
        replace k3 := k3.grow g425 n389.symm
        replace k8 := k8.grow g425 n391.symm
        replace k14 := k14.grow g425 n393.symm
        replace k415 := k415.grow g425 n395.symm
        replace k400 := k400.grow g425 n412.symm
        replace hB := g425.below hB lbi hB.size
        replace hL := LL.grow hL g425 k422.lt
        refine Va (dx_fld (o1 := 4) rfl ty_fld_26_4_4 rfl rfl) rfl rfl ?_
        refine WL.do (dx_store (cs' := [.int .i64 6, .int .i64 0, .string ⟨#[]⟩, u398, u420]) (vs := [u420]) rfl ty_size_24_1 rfl rfl (oc_one k422.one) (oc_cons k422.one oc_nil) k415 rfl (Nat.le_of_ble_eq_true rfl) rfl) rfl ?_
        rintro _ W435 ⟨k437, o436⟩
        replace k3 := k3.other o436 n25
        replace k8 := k8.other o436 n26
        replace k14 := k14.other o436 n27
        replace k400 := k400.other o436 n411.symm
        replace k422 := k422.other o436 n433.symm
        clear k415
        replace hnp := hnp.only o436 (.tail _ (.tail _ (.tail _ (.tail _ (.head _)))))
        replace hip := hip.only o436 (.tail _ (.tail _ (.tail _ (.tail _ (.head _)))))
        replace hcp := hcp.only o436 (.tail _ (.tail _ (.tail _ (.tail _ (.head _)))))
        replace hnq := hnq.only o436 (.tail _ (.tail _ (.tail _ (.tail _ (.head _)))))
        replace hiq := hiq.only o436 (.tail _ (.tail _ (.tail _ (.tail _ (.head _)))))
        replace hcq := hcq.only o436 (.tail _ (.tail _ (.tail _ (.tail _ (.head _)))))
        replace hag := hag.only o436 (.tail _ (.tail _ (.tail _ (.tail _ (.head _)))))
        replace hts := hts.only o436 (.tail _ (.tail _ (.tail _ (.tail _ (.head _)))))
        replace hB := o436.below hB l28
        replace hL := LL.only hL o436
        refine Ni (hK40 (Rg (Pu rfl (Va (dx_add (r := (i : Int) + 1) rfl rfl rfl (wrap64_id (by omega))) rfl rfl (Pu rfl (Ni ?_))))))
        have eputN : (((putN p.names name).take k) ++ [r100]) = (putN p.names name).take (k + 1) := by rw [take_add n2]; (try rfl)
        have eputT : (((putT p.names name p.items q).take k) ++ [t416]) = (putT p.names name p.items q).take (k + 1) := by rw [take_add t2]; (try rfl)
        have hts2 : RdTs (n + 1) (B404 :: B426 :: W13.heap.size :: W7.heap.size :: W2.heap.size :: w.heap.size :: L) W435 (((putT p.names name p.items q).take k) ++ [t416]) := fun c hc_ => by
         simp only [List.mem_append, List.mem_singleton, or_assoc] at hc_
         rcases hc_ with h_ | h_
         · exact (hts c h_).less (fun x hx => by simp only [List.mem_cons] at hx ⊢; rcases hx with h_ | h_ | h_ <;> simp [h_])
         · (rw [h_]; exact (hcp t416 (List.mem_of_getElem? ht417)).up.less (fun x hx => by simp only [List.mem_cons] at hx ⊢; rcases hx with h_ | h_ | h_ <;> simp [h_]))
        have hm2 : MembI (n + 1) b0 (W13.heap.size :: W7.heap.size :: W2.heap.size :: w.heap.size :: L) u398 ((putN p.names name).take (k + 1)) u420 ((putT p.names name p.items q).take (k + 1)) W435 := ⟨hb0L, .inr ⟨B404, B426, n434, by omega, by omega, (by rw [← eputN]; exact k400), (by rw [← eputT]; exact k422), (by rw [← eputT]; exact hts2)⟩⟩
        have hL_ := hL.less (fun x hx => (.tail _ (.tail _ (.tail _ (.tail _ hx)))))
        replace hag : AgL W29 (W13.heap.size :: W7.heap.size :: W2.heap.size :: w.heap.size :: L) (W13.heap.size :: W7.heap.size :: W2.heap.size :: w.heap.size :: L) W435 := ⟨fun _ h _ => h, hag.2⟩
        replace hnp := hnp6.agree hag.2
        replace hip := hip6.agree hag.2
        replace hnq := hnq6.agree hag.2
        replace hiq := hiq6.agree hag.2
        replace hcp : RdTs n (W13.heap.size :: W7.heap.size :: W2.heap.size :: w.heap.size :: L) W435 p.items := fun c hc_ => (hcp6 c hc_).agree hag.2
        replace hcq : RdTs n (W13.heap.size :: W7.heap.size :: W2.heap.size :: w.heap.size :: L) W435 q.items := fun c hc_ => (hcq6 c hc_).agree hag.2
        replace hL := hL_
        exact hK35 (i + 1) (k + 1) u398 u420 ⟨(by omega), (by omega), (fun h_ => by omega), (fun h_ => by omega), hB, hL, hnp, hip, hcp, hnq, hiq, hcq, hag, hm2, k3, k8, k14, k437⟩ (by omega) (by repeat first | exact trivial | exact And.intro rfl trivial | refine And.intro rfl ?_ | refine And.intro (congrArg (fun z : Int => some (Value.int .i64 z)) (by omega)) ?_ | refine And.intro (congrArg (fun z : Bool => some (Value.bool z)) (by first | exact (decide_eq_true (by omega)).symm | exact (decide_eq_false (by omega)).symm)) ?_)
    ·
     replace c345 := bnot_f c345
     replace c345 := dT c345
     exfalso; have hc0 := (putC_found (nm := name) hris (by rw [← (show r100 = name by first | assumption | exact Classical.not_not.1 (by assumption) | simp_all)]; exact e101)).2; (rw [(show r100 = name by first | assumption | exact Classical.not_not.1 (by assumption) | simp_all), sless_irrefl] at hsl; cases hsl)
 ·
  replace c39 := dF c39
  refine WC.exit ?_
  refine hK33 (Sq fun K438 hK438 => (Sq fun K439 hK439 => ?_))
  have hie : i = p.names.length := by omega
  by_cases hda : a_ < i
  ·
   have hkk := hk1 hda
   rw [decide_eq_true hda]
   refine Rg (Pu rfl (Va (dx_not rfl rfl) rfl rfl (Ni (hK439 (WC.condF rfl (WC.skip (hK438 ?_)))))))
   refine Sq fun K440 hK440 => (Rg (Va (dx_loadN rfl ty_agg_26_5 rfl k31.range rfl) rfl rfl ?_))
   refine WL.do (dx_store (cs' := [.int .i64 6, .int .i64 0, .string ⟨#[]⟩, nv, iv]) (vs := [.int .i64 6, .int .i64 0, .string ⟨#[]⟩, nv, iv]) rfl ty_size_26_5 rfl rfl rfl (oc_cons rfl (oc_cons rfl (oc_cons rfl (oc_cons hm.one.1 (oc_cons hm.one.2 oc_nil))))) k14 rfl (Nat.le_of_ble_eq_true rfl) rfl) rfl ?_
   rintro _ W441 ⟨k443, o442⟩
   clear k14
   replace hm := hm.only o442 (.tail _ (.head _))
   replace hB := o442.below hB l19
   refine Ni (hK440 ?_)
   exact WC.ret fun a_ ha_ => hQ (cv_ret1 rfl (.agg rfl ty_agg_26_5 k443.range rfl) (by rw [List.take_of_length_le (show (putN p.names name).length ≤ k by omega), List.take_of_length_le (show (putT p.names name p.items q).length ≤ k by omega)] at hm; exact ⟨.mk 6 0 ⟨#[]⟩ nv (putN p.names name) iv (putT p.names name p.items q), rfl, (by rw [Tr.er_mk, putJ_eq, er_names, er_items, putT_map]), hm.tree (fun x hx => (.tail _ (.tail _ (.tail _ (.tail _ hx))))) 6 0 ⟨#[]⟩⟩) hB ha_)
  ·
   have hkk := hk2 (by omega)
   rw [decide_eq_false hda]
   refine Rg (Pu rfl (Va (dx_not rfl rfl) rfl rfl (Ni (hK439 (WC.condT rfl (Sq fun K444 hK444 => ?_))))))
   have n1 : (putN p.names name)[k]? = some name := by rw [show k = lbT name p.names by omega]; exact putN_a
   have t1 : (putT p.names name p.items q)[k]? = some q := by rw [show k = lbT name p.names by omega]; exact putT_a hlen
   obtain ⟨-, hm⟩ := hm
   have hlN : ((putN p.names name).take k).length ≤ p.names.length + 1 ∧ ((putT p.names name p.items q).take k).length ≤ p.names.length + 1 := ⟨by rw [List.length_take]; omega, by rw [List.length_take]; omega⟩
   rcases hm with ⟨rfl, rfl, hns0, hts0⟩ | ⟨Bn, Bi, hni, hbn, hbi, hOn, hOi, hts⟩
   ·
    refine Rg (Va (dx_fld (o1 := 3) rfl ty_fld_26_3_3 rfl rfl) rfl rfl (Va (dx_load rfl ty_one_23 rfl (k31.cell (k := 3) rfl)) rfl rfl (Pu rfl ?_)))
    refine Ge (dx_lit1 (r := [.string name]) rfl ty_ap_23 (by decide) (by decide) rfl rfl rfl) rfl rfl ?_
    rintro u449 W445 ⟨k446, b447, z448⟩
    have l454 := hB.size
    replace hnp := hnp.more b447 (Nat.le_refl _)
    replace hip := hip.more b447 (Nat.le_refl _)
    replace hcp := hcp.more b447 (Nat.le_refl _)
    replace hnq := hnq.more b447 (Nat.le_refl _)
    replace hiq := hiq.more b447 (Nat.le_refl _)
    replace hcq := hcq.more b447 (Nat.le_refl _)
    replace hag := hag.more b447 (Nat.le_refl _)
    replace k8 := k8.below b447
    replace k14 := k14.below b447
    replace k31 := k31.below b447
    replace hB := below_then hB b447
    replace hL := LL.more hL z448
    refine Ge (dx_apF (rs := []) (news := [eS name]) rfl ty_ap_23 rfl rfl (RdF.nil (L := []) (by decide)) (k446.rd (L := []) (by simp)) (by simp) (by simp [maxLen]) (by simp)) rfl rfl ?_
    rintro u455 W456 ⟨k457, b458, z459⟩
    have q462 := hag.2.1
    have l463 : b0 ≤ W445.heap.size := by omega
    have n467 : W13.heap.size ≠ W445.heap.size := Nat.ne_of_lt k31.lt
    have l469 := hB.size
    replace hnp := hnp.more b458 (Nat.le_refl _)
    replace hip := hip.more b458 (Nat.le_refl _)
    replace hcp := hcp.more b458 (Nat.le_refl _)
    replace hnq := hnq.more b458 (Nat.le_refl _)
    replace hiq := hiq.more b458 (Nat.le_refl _)
    replace hcq := hcq.more b458 (Nat.le_refl _)
    replace hag := hag.more b458 (Nat.le_refl _)
    replace k8 := k8.below b458
    replace k14 := k14.below b458
    replace k31 := k31.below b458
    replace hB := below_then hB b458
    replace hL := LL.more hL z459
    refine Va (dx_fld (o1 := 3) rfl ty_fld_26_3_3 rfl rfl) rfl rfl ?_
    refine WL.do (dx_store (cs' := [.int .i64 6, .int .i64 0, .string ⟨#[]⟩, u455, .slice none 0 0]) (vs := [u455]) rfl ty_size_23_1 rfl rfl (oc_one k457.one) (oc_cons k457.one oc_nil) k31 rfl (Nat.le_of_ble_eq_true rfl) rfl) rfl ?_
    rintro _ W470 ⟨k472, o471⟩
    replace k8 := k8.other o471 n26
    replace k14 := k14.other o471 n27
    replace k457 := k457.other o471 n467.symm
    clear k31
    replace hnp := hnp.only o471 (.tail _ (.tail _ (.head _)))
    replace hip := hip.only o471 (.tail _ (.tail _ (.head _)))
    replace hcp := hcp.only o471 (.tail _ (.tail _ (.head _)))
    replace hnq := hnq.only o471 (.tail _ (.tail _ (.head _)))
    replace hiq := hiq.only o471 (.tail _ (.tail _ (.head _)))
    replace hcq := hcq.only o471 (.tail _ (.tail _ (.head _)))
    replace hag := hag.only o471 (.tail _ (.tail _ (.head _)))
    replace hB := o471.below hB l28
    replace hL := LL.only hL o471
    refine Ni (hK444 (Rg (Va (dx_fld (o1 := 4) rfl ty_fld_26_4_4 rfl rfl) rfl rfl (Va (dx_load rfl ty_one_24 rfl (k472.cell (k := 4) rfl)) rfl rfl (Va (dx_loadN rfl ty_agg_26_5 rfl k8.range rfl) rfl rfl ?_)))))
    refine Ge (dx_lit1 (r := [.int .i64 q.kind, .int .i64 q.num, .string q.text, q.nv, q.iv]) rfl ty_ap_24 (by decide) (by decide) rfl rfl rfl) rfl rfl ?_
    rintro u477 W473 ⟨k474, b475, z476⟩
    have l484 := hB.size
    replace hnp := hnp.more b475 (Nat.le_refl _)
    replace hip := hip.more b475 (Nat.le_refl _)
    replace hcp := hcp.more b475 (Nat.le_refl _)
    replace hnq := hnq.more b475 (Nat.le_refl _)
    replace hiq := hiq.more b475 (Nat.le_refl _)
    replace hcq := hcq.more b475 (Nat.le_refl _)
    replace hag := hag.more b475 (Nat.le_refl _)
    replace k14 := k14.below b475
    replace k472 := k472.below b475
    replace k457 := k457.below b475
    replace hB := below_then hB b475
    replace hL := LL.more hL z476
    refine Ge (dx_apF (rs := []) (news := [encT q]) rfl ty_ap_24 rfl rfl (RdF.nil (L := []) (by decide)) (k474.rd (L := []) (by simp)) (by simp) (by simp [maxLen]) (by simp)) rfl rfl ?_
    rintro u485 W486 ⟨k487, b488, z489⟩
    have q492 := hag.2.1
    have l493 : b0 ≤ W473.heap.size := by omega
    have n497 : W13.heap.size ≠ W473.heap.size := Nat.ne_of_lt k472.lt
    have n499 : W445.heap.size ≠ W473.heap.size := Nat.ne_of_lt k457.lt
    have l501 := hB.size
    replace hnp := hnp.more b488 (Nat.le_refl _)
    replace hip := hip.more b488 (Nat.le_refl _)
    replace hcp := hcp.more b488 (Nat.le_refl _)
    replace hnq := hnq.more b488 (Nat.le_refl _)
    replace hiq := hiq.more b488 (Nat.le_refl _)
    replace hcq := hcq.more b488 (Nat.le_refl _)
    replace hag := hag.more b488 (Nat.le_refl _)
    replace k14 := k14.below b488
    replace k472 := k472.below b488
    replace k457 := k457.below b488
    replace hB := below_then hB b488
    replace hL := LL.more hL z489
    refine Va (dx_fld (o1 := 4) rfl ty_fld_26_4_4 rfl rfl) rfl rfl ?_
    refine WL.do (dx_store (cs' := [.int .i64 6, .int .i64 0, .string ⟨#[]⟩, u455, u485]) (vs := [u485]) rfl ty_size_24_1 rfl rfl (oc_one k487.one) (oc_cons k487.one oc_nil) k472 rfl (Nat.le_of_ble_eq_true rfl) rfl) rfl ?_
    rintro _ W502 ⟨k504, o503⟩
    replace k14 := k14.other o503 n27
    replace k457 := k457.other o503 n467.symm
    replace k487 := k487.other o503 n497.symm
    clear k472
    replace hnp := hnp.only o503 (.tail _ (.tail _ (.tail _ (.tail _ (.head _)))))
    replace hip := hip.only o503 (.tail _ (.tail _ (.tail _ (.tail _ (.head _)))))
    replace hcp := hcp.only o503 (.tail _ (.tail _ (.tail _ (.tail _ (.head _)))))
    replace hnq := hnq.only o503 (.tail _ (.tail _ (.tail _ (.tail _ (.head _)))))
    replace hiq := hiq.only o503 (.tail _ (.tail _ (.tail _ (.tail _ (.head _)))))
    replace hcq := hcq.only o503 (.tail _ (.tail _ (.tail _ (.tail _ (.head _)))))
    replace hag := hag.only o503 (.tail _ (.tail _ (.tail _ (.tail _ (.head _)))))
    replace hB := o503.below hB l28
    replace hL := LL.only hL o503
    refine Ni (hK438 (Sq fun K505 hK505 => ?_))
    have eputN : [name] = (putN p.names name).take (k + 1) := by rw [show [name] = (putN p.names name).take k ++ [name] from by rw [hns0]; rfl]; rw [take_add n1]
    have eputT : [q] = (putT p.names name p.items q).take (k + 1) := by rw [show [q] = (putT p.names name p.items q).take k ++ [q] from by rw [hts0]; rfl]; rw [take_add t1]
    have hts2 : RdTs (n + 1) (W445.heap.size :: W473.heap.size :: W13.heap.size :: W7.heap.size :: W2.heap.size :: w.heap.size :: L) W502 [q] := fun c hc_ => by
     simp only [List.mem_append, List.mem_singleton, or_assoc] at hc_
     have h_ := hc_
     (rw [h_]; exact (show RdT (n + 1) (W473.heap.size :: W470.heap.size :: W445.heap.size :: W36.heap.size :: W13.heap.size :: W7.heap.size :: W2.heap.size :: w.heap.size :: L) W502 q from ⟨hnq, hiq, hcq⟩).less (fun x hx => by simp only [List.mem_cons] at hx ⊢; rcases hx with h_ | h_ | h_ <;> simp [h_]))
    have hm2 : MembI (n + 1) b0 (W13.heap.size :: W7.heap.size :: W2.heap.size :: w.heap.size :: L) u455 ((putN p.names name).take (k + 1)) u485 ((putT p.names name p.items q).take (k + 1)) W502 := ⟨hb0L, .inr ⟨W445.heap.size, W473.heap.size, n499, by omega, by omega, (by rw [← eputN]; exact k457), (by rw [← eputT]; exact k487), (by rw [← eputT]; exact hts2)⟩⟩
    have hL_ := hL.less (fun x hx => (.tail _ (.tail _ (.tail _ (.tail _ hx)))))
    replace hag : AgL W29 (W13.heap.size :: W7.heap.size :: W2.heap.size :: w.heap.size :: L) (W13.heap.size :: W7.heap.size :: W2.heap.size :: w.heap.size :: L) W502 := ⟨fun _ h _ => h, hag.2⟩
    replace hnp := hnp6.agree hag.2
    replace hip := hip6.agree hag.2
    replace hnq := hnq6.agree hag.2
    replace hiq := hiq6.agree hag.2
    replace hcp : RdTs n (W13.heap.size :: W7.heap.size :: W2.heap.size :: w.heap.size :: L) W502 p.items := fun c hc_ => (hcp6 c hc_).agree hag.2
    replace hcq : RdTs n (W13.heap.size :: W7.heap.size :: W2.heap.size :: w.heap.size :: L) W502 q.items := fun c hc_ => (hcq6 c hc_).agree hag.2
    replace hL := hL_
    have hc1 : c_ = 1 := by rw [hc_]; unfold putC; rw [if_neg (fun h_ => by have := (List.getElem?_eq_some_iff.1 h_).1; omega)]
    refine Rg (Va (dx_loadN rfl ty_agg_26_5 rfl k504.range rfl) rfl rfl ?_)
    refine WL.do (dx_store (cs' := [.int .i64 6, .int .i64 0, .string ⟨#[]⟩, u455, u485]) (vs := [.int .i64 6, .int .i64 0, .string ⟨#[]⟩, u455, u485]) rfl ty_size_26_5 rfl rfl rfl (oc_cons rfl (oc_cons rfl (oc_cons rfl (oc_cons k457.one (oc_cons k487.one oc_nil))))) k14 rfl (Nat.le_of_ble_eq_true rfl) rfl) rfl ?_
    rintro _ W506 ⟨k508, o507⟩
    clear k14
    replace hm2 := hm2.only o507 (.tail _ (.head _))
    replace hB := o507.below hB l19
    refine Ni (hK505 ?_)
    exact WC.ret fun a_ ha_ => hQ (cv_ret1 rfl (.agg rfl ty_agg_26_5 k508.range rfl) (by rw [List.take_of_length_le (show (putN p.names name).length ≤ k + 1 by omega), List.take_of_length_le (show (putT p.names name p.items q).length ≤ k + 1 by omega)] at hm2; exact ⟨.mk 6 0 ⟨#[]⟩ u455 (putN p.names name) u485 (putT p.names name p.items q), rfl, (by rw [Tr.er_mk, putJ_eq, er_names, er_items, putT_map]), hm2.tree (fun x hx => (.tail _ (.tail _ (.tail _ (.tail _ hx))))) 6 0 ⟨#[]⟩⟩) hB ha_)
   ·
    have n511 : Bn ≠ W2.heap.size := by have := hb0L (W2.heap.size) (.tail _ (.tail _ (.head _))); omega
    have n513 : Bn ≠ W7.heap.size := by have := hb0L (W7.heap.size) (.tail _ (.head _)); omega
    have n514 : Bi ≠ W7.heap.size := by have := hb0L (W7.heap.size) (.tail _ (.head _)); omega
    have n515 : Bn ≠ W13.heap.size := by have := hb0L (W13.heap.size) (.head _); omega
    have n516 : Bi ≠ W13.heap.size := by have := hb0L (W13.heap.size) (.head _); omega
    have lbn : w.heap.size ≤ Bn := by omega
    have lbi : w.heap.size ≤ Bi := by omega
    replace hag := (hag.add (B := Bi) (by omega)).add (B := Bn) (by omega)
    replace hL := LL.cons (LL.cons hL hOi.lt) hOn.lt
    replace hnp := hag.rd hnp6
    replace hip := hag.rd hip6
    replace hnq := hag.rd hnq6
    replace hiq := hag.rd hiq6
    replace hcp : RdTs n (Bn :: Bi :: W13.heap.size :: W7.heap.size :: W2.heap.size :: w.heap.size :: L) W36 p.items := fun c hc_ => hag.rt (hcp6 c hc_)
    replace hcq : RdTs n (Bn :: Bi :: W13.heap.size :: W7.heap.size :: W2.heap.size :: w.heap.size :: L) W36 q.items := fun c hc_ => hag.rt (hcq6 c hc_)
    refine Rg (Va (dx_fld (o1 := 3) rfl ty_fld_26_3_3 rfl rfl) rfl rfl (Va (dx_load rfl ty_one_23 rfl (k31.cell (k := 3) rfl)) rfl rfl (Pu rfl ?_)))
    refine Ge (dx_lit1 (r := [.string name]) rfl ty_ap_23 (by decide) (by decide) rfl rfl rfl) rfl rfl ?_
    rintro u521 W517 ⟨k518, b519, z520⟩
    have l528 := hB.size
    replace hnp := hnp.more b519 (Nat.le_refl _)
    replace hip := hip.more b519 (Nat.le_refl _)
    replace hcp := hcp.more b519 (Nat.le_refl _)
    replace hnq := hnq.more b519 (Nat.le_refl _)
    replace hiq := hiq.more b519 (Nat.le_refl _)
    replace hcq := hcq.more b519 (Nat.le_refl _)
    replace hag := hag.more b519 (Nat.le_refl _)
    replace hts := hts.more b519 (Nat.le_refl _)
    replace k8 := k8.below b519
    replace k14 := k14.below b519
    replace k31 := k31.below b519
    replace hOn := hOn.below b519
    replace hOi := hOi.below b519
    replace hB := below_then hB b519
    replace hL := LL.more hL z520
    refine Ge (dx_apO' (rs := (((putN p.names name).take k).map eS)) (news := [eS name]) rfl ty_ap_23 rfl rfl hOn (k518.rd (L := []) (by simp)) (fun r hr => by rw [List.mem_singleton.1 hr]; exact (oc_cons rfl oc_nil)) (by simp only [List.length_map, List.length_append, List.length_cons, List.length_nil]; unfold maxLen; omega) (by simp only [List.length_map, List.length_append, List.length_cons, List.length_nil]; omega)) rfl rfl ?_
    rintro u529 W530 ⟨B535, k531, g534⟩
    rw [show (((putN p.names name).take k).map eS) ++ [eS name] = ((((putN p.names name).take k) ++ [name]).map eS) from by simp only [List.map_append, List.map_cons, List.map_nil]] at k531
    have q537 := hag.2.1
    have l538 : b0 ≤ B535 := g534.le hbn (by omega)
    have n542 : W13.heap.size ≠ B535 := k31.grow_ne g534 n515.symm
    have n543 : Bi ≠ B535 := hOi.grow_ne g534 hni.symm
    have l536 := g534.le lbn hB.size
    replace hnp := hnp.grow' g534 (.tail _ (.head _))
    replace hip := hip.grow' g534 (.tail _ (.head _))
    replace hcp := hcp.grow' g534 (.tail _ (.head _))
    replace hnq := hnq.grow' g534 (.tail _ (.head _))
    replace hiq := hiq.grow' g534 (.tail _ (.head _))
    replace hcq := hcq.grow' g534 (.tail _ (.head _))
    replace hag := hag.grow' g534 (.tail _ (.head _))
    replace hts := hts.grow' g534 (.tail _ (.head _))
    replace k8 := k8.grow g534 n511.symm
    replace k14 := k14.grow g534 n513.symm
    replace k31 := k31.grow g534 n515.symm
    replace hOi := hOi.grow g534 hni.symm
    replace hB := g534.below hB lbn hB.size
    replace hL := LL.grow hL g534 k531.lt
    refine Va (dx_fld (o1 := 3) rfl ty_fld_26_3_3 rfl rfl) rfl rfl ?_
    refine WL.do (dx_store (cs' := [.int .i64 6, .int .i64 0, .string ⟨#[]⟩, u529, iv]) (vs := [u529]) rfl ty_size_23_1 rfl rfl (oc_one k531.one) (oc_cons k531.one oc_nil) k31 rfl (Nat.le_of_ble_eq_true rfl) rfl) rfl ?_
    rintro _ W545 ⟨k547, o546⟩
    replace k8 := k8.other o546 n26
    replace k14 := k14.other o546 n27
    replace hOi := hOi.other o546 n516
    replace k531 := k531.other o546 n542.symm
    clear k31
    replace hnp := hnp.only o546 (.tail _ (.tail _ (.tail _ (.tail _ (.head _)))))
    replace hip := hip.only o546 (.tail _ (.tail _ (.tail _ (.tail _ (.head _)))))
    replace hcp := hcp.only o546 (.tail _ (.tail _ (.tail _ (.tail _ (.head _)))))
    replace hnq := hnq.only o546 (.tail _ (.tail _ (.tail _ (.tail _ (.head _)))))
    replace hiq := hiq.only o546 (.tail _ (.tail _ (.tail _ (.tail _ (.head _)))))
    replace hcq := hcq.only o546 (.tail _ (.tail _ (.tail _ (.tail _ (.head _)))))
    replace hag := hag.only o546 (.tail _ (.tail _ (.tail _ (.tail _ (.head _)))))
    replace hts := hts.only o546 (.tail _ (.tail _ (.tail _ (.tail _ (.head _)))))
    replace hB := o546.below hB l28
    replace hL := LL.only hL o546
    refine Ni (hK444 (Rg (Va (dx_fld (o1 := 4) rfl ty_fld_26_4_4 rfl rfl) rfl rfl (Va (dx_load rfl ty_one_24 rfl (k547.cell (k := 4) rfl)) rfl rfl (Va (dx_loadN rfl ty_agg_26_5 rfl k8.range rfl) rfl rfl ?_)))))
    refine Ge (dx_lit1 (r := [.int .i64 q.kind, .int .i64 q.num, .string q.text, q.nv, q.iv]) rfl ty_ap_24 (by decide) (by decide) rfl rfl rfl) rfl rfl ?_
    rintro u552 W548 ⟨k549, b550, z551⟩
    have l560 := hB.size
    replace hnp := hnp.more b550 (Nat.le_refl _)
    replace hip := hip.more b550 (Nat.le_refl _)
    replace hcp := hcp.more b550 (Nat.le_refl _)
    replace hnq := hnq.more b550 (Nat.le_refl _)
    replace hiq := hiq.more b550 (Nat.le_refl _)
    replace hcq := hcq.more b550 (Nat.le_refl _)
    replace hag := hag.more b550 (Nat.le_refl _)
    replace hts := hts.more b550 (Nat.le_refl _)
    replace k14 := k14.below b550
    replace k547 := k547.below b550
    replace hOi := hOi.below b550
    replace k531 := k531.below b550
    replace hB := below_then hB b550
    replace hL := LL.more hL z551
    refine Ge (dx_apO' (rs := (((putT p.names name p.items q).take k).map encT)) (news := [encT q]) rfl ty_ap_24 rfl rfl hOi (k549.rd (L := []) (by simp)) (fun r hr => by rw [List.mem_singleton.1 hr]; exact (show RdT (n + 1) (W545.heap.size :: B535 :: W36.heap.size :: Bn :: Bi :: W13.heap.size :: W7.heap.size :: W2.heap.size :: w.heap.size :: L) W548 q from ⟨hnq, hiq, hcq⟩).oc) (by simp only [List.length_map, List.length_append, List.length_cons, List.length_nil]; unfold maxLen; omega) (by simp only [List.length_map, List.length_append, List.length_cons, List.length_nil]; omega)) rfl rfl ?_
    rintro u561 W562 ⟨B567, k563, g566⟩
    rw [show (((putT p.names name p.items q).take k).map encT) ++ [encT q] = ((((putT p.names name p.items q).take k) ++ [q]).map encT) from by simp only [List.map_append, List.map_cons, List.map_nil]] at k563
    have q569 := hag.2.1
    have l570 : b0 ≤ B567 := g566.le hbi (by omega)
    have n574 : W13.heap.size ≠ B567 := k547.grow_ne g566 n516.symm
    have n576 : B535 ≠ B567 := k531.grow_ne g566 n543.symm
    have l568 := g566.le lbi hB.size
    replace hnp := hnp.grow' g566 (.tail _ (.tail _ (.tail _ (.tail _ (.head _)))))
    replace hip := hip.grow' g566 (.tail _ (.tail _ (.tail _ (.tail _ (.head _)))))
    replace hcp := hcp.grow' g566 (.tail _ (.tail _ (.tail _ (.tail _ (.head _)))))
    replace hnq := hnq.grow' g566 (.tail _ (.tail _ (.tail _ (.tail _ (.head _)))))
    replace hiq := hiq.grow' g566 (.tail _ (.tail _ (.tail _ (.tail _ (.head _)))))
    replace hcq := hcq.grow' g566 (.tail _ (.tail _ (.tail _ (.tail _ (.head _)))))
    replace hag := hag.grow' g566 (.tail _ (.tail _ (.tail _ (.tail _ (.head _)))))
    replace hts := hts.grow' g566 (.tail _ (.tail _ (.tail _ (.tail _ (.head _)))))
    replace k14 := k14.grow g566 n514.symm
    replace k547 := k547.grow g566 n516.symm
    replace k531 := k531.grow g566 n543.symm
    replace hB := g566.below hB lbi hB.size
    replace hL := LL.grow hL g566 k563.lt
    refine Va (dx_fld (o1 := 4) rfl ty_fld_26_4_4 rfl rfl) rfl rfl ?_
    refine WL.do (dx_store (cs' := [.int .i64 6, .int .i64 0, .string ⟨#[]⟩, u529, u561]) (vs := [u561]) rfl ty_size_24_1 rfl rfl (oc_one k563.one) (oc_cons k563.one oc_nil) k547 rfl (Nat.le_of_ble_eq_true rfl) rfl) rfl ?_
    rintro _ W578 ⟨k580, o579⟩
    replace k14 := k14.other o579 n27
    replace k531 := k531.other o579 n542.symm
    replace k563 := k563.other o579 n574.symm
    clear k547
    replace hnp := hnp.only o579 (.tail _ (.tail _ (.tail _ (.tail _ (.tail _ (.tail _ (.head _)))))))
    replace hip := hip.only o579 (.tail _ (.tail _ (.tail _ (.tail _ (.tail _ (.tail _ (.head _)))))))
    replace hcp := hcp.only o579 (.tail _ (.tail _ (.tail _ (.tail _ (.tail _ (.tail _ (.head _)))))))
    replace hnq := hnq.only o579 (.tail _ (.tail _ (.tail _ (.tail _ (.tail _ (.tail _ (.head _)))))))
    replace hiq := hiq.only o579 (.tail _ (.tail _ (.tail _ (.tail _ (.tail _ (.tail _ (.head _)))))))
    replace hcq := hcq.only o579 (.tail _ (.tail _ (.tail _ (.tail _ (.tail _ (.tail _ (.head _)))))))
    replace hag := hag.only o579 (.tail _ (.tail _ (.tail _ (.tail _ (.tail _ (.tail _ (.head _)))))))
    replace hts := hts.only o579 (.tail _ (.tail _ (.tail _ (.tail _ (.tail _ (.tail _ (.head _)))))))
    replace hB := o579.below hB l28
    replace hL := LL.only hL o579
    refine Ni (hK438 (Sq fun K581 hK581 => ?_))
    have eputN : (((putN p.names name).take k) ++ [name]) = (putN p.names name).take (k + 1) := by rw [take_add n1]
    have eputT : (((putT p.names name p.items q).take k) ++ [q]) = (putT p.names name p.items q).take (k + 1) := by rw [take_add t1]
    have hts2 : RdTs (n + 1) (B535 :: B567 :: W13.heap.size :: W7.heap.size :: W2.heap.size :: w.heap.size :: L) W578 (((putT p.names name p.items q).take k) ++ [q]) := fun c hc_ => by
     simp only [List.mem_append, List.mem_singleton, or_assoc] at hc_
     rcases hc_ with h_ | h_
     · exact (hts c h_).less (fun x hx => by simp only [List.mem_cons] at hx ⊢; rcases hx with h_ | h_ | h_ <;> simp [h_])
     · (rw [h_]; exact (show RdT (n + 1) (B567 :: W545.heap.size :: B535 :: W36.heap.size :: Bn :: Bi :: W13.heap.size :: W7.heap.size :: W2.heap.size :: w.heap.size :: L) W578 q from ⟨hnq, hiq, hcq⟩).less (fun x hx => by simp only [List.mem_cons] at hx ⊢; rcases hx with h_ | h_ | h_ <;> simp [h_]))
    have hm2 : MembI (n + 1) b0 (W13.heap.size :: W7.heap.size :: W2.heap.size :: w.heap.size :: L) u529 ((putN p.names name).take (k + 1)) u561 ((putT p.names name p.items q).take (k + 1)) W578 := ⟨hb0L, .inr ⟨B535, B567, n576, by omega, by omega, (by rw [← eputN]; exact k531), (by rw [← eputT]; exact k563), (by rw [← eputT]; exact hts2)⟩⟩
    have hL_ := hL.less (fun x hx => (.tail _ (.tail _ (.tail _ (.tail _ (.tail _ (.tail _ hx)))))))
    replace hag : AgL W29 (W13.heap.size :: W7.heap.size :: W2.heap.size :: w.heap.size :: L) (W13.heap.size :: W7.heap.size :: W2.heap.size :: w.heap.size :: L) W578 := ⟨fun _ h _ => h, hag.2⟩
    replace hnp := hnp6.agree hag.2
    replace hip := hip6.agree hag.2
    replace hnq := hnq6.agree hag.2
    replace hiq := hiq6.agree hag.2
    replace hcp : RdTs n (W13.heap.size :: W7.heap.size :: W2.heap.size :: w.heap.size :: L) W578 p.items := fun c hc_ => (hcp6 c hc_).agree hag.2
    replace hcq : RdTs n (W13.heap.size :: W7.heap.size :: W2.heap.size :: w.heap.size :: L) W578 q.items := fun c hc_ => (hcq6 c hc_).agree hag.2
    replace hL := hL_
    have hc1 : c_ = 1 := by rw [hc_]; unfold putC; rw [if_neg (fun h_ => by have := (List.getElem?_eq_some_iff.1 h_).1; omega)]
    refine Rg (Va (dx_loadN rfl ty_agg_26_5 rfl k580.range rfl) rfl rfl ?_)
    refine WL.do (dx_store (cs' := [.int .i64 6, .int .i64 0, .string ⟨#[]⟩, u529, u561]) (vs := [.int .i64 6, .int .i64 0, .string ⟨#[]⟩, u529, u561]) rfl ty_size_26_5 rfl rfl rfl (oc_cons rfl (oc_cons rfl (oc_cons rfl (oc_cons k531.one (oc_cons k563.one oc_nil))))) k14 rfl (Nat.le_of_ble_eq_true rfl) rfl) rfl ?_
    rintro _ W582 ⟨k584, o583⟩
    clear k14
    replace hm2 := hm2.only o583 (.tail _ (.head _))
    replace hB := o583.below hB l19
    refine Ni (hK581 ?_)
    exact WC.ret fun a_ ha_ => hQ (cv_ret1 rfl (.agg rfl ty_agg_26_5 k584.range rfl) (by rw [List.take_of_length_le (show (putN p.names name).length ≤ k + 1 by omega), List.take_of_length_le (show (putT p.names name p.items q).length ≤ k + 1 by omega)] at hm2; exact ⟨.mk 6 0 ⟨#[]⟩ u529 (putN p.names name) u561 (putT p.names name p.items q), rfl, (by rw [Tr.er_mk, putJ_eq, er_names, er_items, putT_map]), hm2.tree (fun x hx => (.tail _ (.tail _ (.tail _ (.tail _ hx))))) 6 0 ⟨#[]⟩⟩) hB ha_)

abbrev NJ := ByteArray × Js
def foldZ : List NJ → List NJ → Option (List NJ)
 | [], zs => some zs
 | p :: l, zs => if (zs.map Prod.fst)[lbT p.1 (zs.map Prod.fst)]? = some p.1 then none else foldZ l (insA (lbT p.1 (zs.map Prod.fst)) p zs)
def makeJ (ps : List NJ) : Except Int Js :=
 if ps.all (fun p => rightJ upB 12 p.2 && upB p.1) = true then
  match foldZ ps [] with
  | none => .error 6
  | some zs => if ps.any (fun p => decide (12 ≤ deepJ 13 p.2)) = true then .error 4 else .ok (.mk 6 0 ⟨#[]⟩ (zs.map Prod.fst) (zs.map Prod.snd))
 else .error 1
theorem map_insA {α β : Type} (f : α → β) (i : Nat) (x : α) (l : List α) : (insA i x l).map f = insA i (f x) (l.map f) := by
 unfold insA
 simp [List.map_take, List.map_drop]
theorem foldZ_spec : ∀ (ps zs : List NJ), Rises (zs.map Prod.fst) → (foldZ ps zs = none ∧ ¬ ((ps.map Prod.fst).Nodup ∧ ∀ p ∈ ps, p.1 ∉ zs.map Prod.fst)) ∨ (∃ ys, foldZ ps zs = some ys ∧ (ps.map Prod.fst).Nodup ∧ (∀ p ∈ ps, p.1 ∉ zs.map Prod.fst) ∧ Rises (ys.map Prod.fst) ∧ ∀ x, x ∈ ys ↔ x ∈ zs ∨ x ∈ ps)
  | [], zs, hr => .inr ⟨zs, rfl, List.nodup_nil, (fun p hp => by cases hp), hr, fun x => by simp⟩
  | p :: l, zs, hr => by
    rw [foldZ]
    by_cases h : (zs.map Prod.fst)[lbT p.1 (zs.map Prod.fst)]? = some p.1
    · rw [if_pos h]
      exact .inl ⟨rfl, fun ⟨_, h2⟩ => h2 p (.head _) (List.mem_of_getElem? h)⟩
    · rw [if_neg h]
      have hn : p.1 ∉ zs.map Prod.fst := fun hm => h ((mem_lb hr).1 hm)
      have hr2 : Rises ((insA (lbT p.1 (zs.map Prod.fst)) p zs).map Prod.fst) := by rw [map_insA]; exact rises_ins hr h
      have hmem : ∀ a, a ∈ (insA (lbT p.1 (zs.map Prod.fst)) p zs).map Prod.fst ↔ a = p.1 ∨ a ∈ zs.map Prod.fst := fun a => by rw [map_insA]; exact mem_insA
      rcases foldZ_spec l _ hr2 with ⟨e, hx⟩ | ⟨ys, e, h1, h2, h3, h4⟩
      · refine .inl ⟨e, fun ⟨q1, q2⟩ => hx ?_⟩
        rw [List.map_cons, List.nodup_cons] at q1
        refine ⟨q1.2, fun q hq hm => ?_⟩
        rcases (hmem q.1).1 hm with he | he
        · exact q1.1 (he ▸ List.mem_map.2 ⟨q, hq, rfl⟩)
        · exact q2 q (.tail _ hq) he
      · refine .inr ⟨ys, e, ?_, ?_, h3, fun x => ?_⟩
        · rw [List.map_cons, List.nodup_cons]
          refine ⟨fun hm => ?_, h1⟩
          obtain ⟨q, hq, he⟩ := List.mem_map.1 hm
          exact h2 q hq ((hmem q.1).2 (.inl he))
        · intro q hq
          rcases List.mem_cons.1 hq with rfl | hq
          · exact hn
          · exact fun hm => h2 q hq ((hmem q.1).2 (.inr hm))
        · rw [h4 x, mem_insA, List.mem_cons]
          constructor
          · rintro ((h | h) | h)
            · exact .inr (.inl h)
            · exact .inl h
            · exact .inr (.inr h)
          · rintro (h | h | h)
            · exact .inl (.inr h)
            · exact .inl (.inl h)
            · exact .inr h
theorem rises_ext : ∀ (ys zs : List NJ), Rises (ys.map Prod.fst) → Rises (zs.map Prod.fst) → (∀ x, x ∈ ys ↔ x ∈ zs) → ys = zs
  | [], [], _, _, _ => rfl
  | [], z :: zs, _, _, h => absurd ((h z).2 (.head _)) (by simp)
  | y :: ys, [], _, _, h => absurd ((h y).1 (.head _)) (by simp)
  | y :: ys, z :: zs, h1, h2, h => by
    have a1 := List.pairwise_cons.1 h1
    have a2 := List.pairwise_cons.1 h2
    have e : y = z := by
      rcases List.mem_cons.1 ((h y).1 (.head _)) with e | e
      · exact e
      · rcases List.mem_cons.1 ((h z).2 (.head _)) with e2 | e2
        · exact e2.symm
        · have l1 := a2.1 y.1 (List.mem_map.2 ⟨y, e, rfl⟩)
          have l2 := a1.1 z.1 (List.mem_map.2 ⟨z, e2, rfl⟩)
          have := sless_trans _ _ _ l1 l2
          rw [sless_irrefl] at this
          cases this
    subst e
    have nd : ∀ (l : List NJ), (∀ a ∈ l.map Prod.fst, sless y.1 a = true) → y ∉ l := fun l hl hm => by
      have := hl y.1 (List.mem_map.2 ⟨y, hm, rfl⟩)
      rw [sless_irrefl] at this
      cases this
    rw [rises_ext ys zs a1.2 a2.2 fun x => ?_]
    constructor
    · intro hx
      rcases List.mem_cons.1 ((h x).1 (.tail _ hx)) with rfl | hx2
      · exact absurd hx (nd ys a1.1)
      · exact hx2
    · intro hx
      rcases List.mem_cons.1 ((h x).2 (.tail _ hx)) with rfl | hx2
      · exact absurd hx (nd zs a2.1)
      · exact hx2
theorem makeJ_perm {ps qs : List NJ} (h : ps.Perm qs) : makeJ ps = makeJ qs := by
 have e1 : ps.all (fun p => rightJ upB 12 p.2 && upB p.1) = qs.all (fun p => rightJ upB 12 p.2 && upB p.1) := by
  rw [Bool.eq_iff_iff, List.all_eq_true, List.all_eq_true]
  exact ⟨fun k x hx => k x (h.mem_iff.2 hx), fun k x hx => k x (h.mem_iff.1 hx)⟩
 have e2 : ps.any (fun p => decide (12 ≤ deepJ 13 p.2)) = qs.any (fun p => decide (12 ≤ deepJ 13 p.2)) := by
  rw [Bool.eq_iff_iff, List.any_eq_true, List.any_eq_true]
  exact ⟨fun ⟨x, hx, k⟩ => ⟨x, h.mem_iff.1 hx, k⟩, fun ⟨x, hx, k⟩ => ⟨x, h.mem_iff.2 hx, k⟩⟩
 have e3 : foldZ ps [] = foldZ qs [] := by
  have hn := (h.map Prod.fst).nodup_iff
  rcases foldZ_spec ps [] List.Pairwise.nil with ⟨a, b⟩ | ⟨ys, a, b1, b2, b3, b4⟩ <;> rcases foldZ_spec qs [] List.Pairwise.nil with ⟨c, d⟩ | ⟨zs, c, d1, d2, d3, d4⟩
  · rw [a, c]
  · exact absurd ⟨hn.2 d1, fun p hp => by simp⟩ b
  · exact absurd ⟨hn.1 b1, fun p hp => by simp⟩ d
  · rw [a, c, rises_ext ys zs b3 d3 fun x => by rw [b4, d4, h.mem_iff]]
 unfold makeJ
 rw [e1, e2, e3]
theorem foldZ_rises {ps : List NJ} (h : Rises (ps.map Prod.fst)) : foldZ ps [] = some ps := by
 have hnd : (ps.map Prod.fst).Nodup := h.imp fun hab e => by rw [e, sless_irrefl] at hab; cases hab
 rcases foldZ_spec ps [] List.Pairwise.nil with ⟨a, b⟩ | ⟨ys, a, b1, b2, b3, b4⟩
 · exact absurd ⟨hnd, fun p hp => by simp⟩ b
 · rw [a, rises_ext ys ps b3 h fun x => by rw [b4]; simp]
theorem foldZ_twice {ps : List NJ} (h : ¬ (ps.map Prod.fst).Nodup) : foldZ ps [] = none := by
 rcases foldZ_spec ps [] List.Pairwise.nil with ⟨a, b⟩ | ⟨ys, a, b1, b2, b3, b4⟩
 · exact a
 · exact absurd b1 h
section
variable {P : Program} {ops : Array Oper} {o : Oper} {N : Nat} {f : Fl} {w : World}
end

section
variable {s : ByteArray} {k y : Nat} {r q x : Int}
end
theorem row_one {R : List (List Value)} {i : Nat} {r : List Value} (h : R[i]? = some r) : (R.drop i).take (i + 1 - i) = [r] := by
 obtain ⟨hl, he⟩ := List.getElem?_eq_some_iff.1 h
 rw [List.drop_eq_getElem_cons hl, he, show i + 1 - i = 1 by omega]
 rfl
theorem lit_row {sp : List (List Value)} {i : Nat} {d : Int} (h : ([34, 92, 47, 8, 12, 10, 13, 9] : List Int)[i]? = some d) : ((([34, 92, 47, 8, 12, 10, 13, 9] : List Int).map fun n => [Value.int .u8 n]) ++ sp)[i]? = some (e8 d) := by
 have hl := (List.getElem?_eq_some_iff.1 h).1
 rw [List.getElem?_append_left (by rw [List.length_map]; exact hl), List.getElem?_map, h]
 rfl
abbrev lit8 : List (List Value) := ([34, 92, 47, 8, 12, 10, 13, 9] : List Int).map fun n => [Value.int .u8 n]
def litR (w : World) (B c : Nat) : Prop := ∃ sp, c = (lit8 ++ sp).length ∧ RwB 1 w B (lit8 ++ sp)
theorem litR.below {w w' : World} {B c : Nat} (h : litR w B c) (hb : Below w.heap.size w w') : litR w' B c := by obtain ⟨sp, e, h⟩ := h; exact ⟨sp, e, h.below hb⟩
theorem litR.len {w : World} {B c : Nat} (h : litR w B c) : 8 ≤ c := by obtain ⟨sp, rfl, h⟩ := h; rw [List.length_append]; exact Nat.le_add_right _ _
theorem litR.row {w : World} {B c i : Nat} {d : Int} (h : litR w B c) (hi : i < 8) (hd : ([34, 92, 47, 8, 12, 10, 13, 9] : List Int)[i]? = some d) : RdF 1 [] w (.slice (some ⟨B, offV c i 0 1, none⟩) (i + 1 - i) (c - i)) ([d].map e8) := by
 have hc := h.len
 obtain ⟨sp, rfl, h⟩ := h
 have hp := h.part (L := []) (by simp) (lo := i) (n := i + 1 - i) (c := (lit8 ++ sp).length - i) (o1 := offV (lit8 ++ sp).length i 0 1) (fun _ => by rw [offV_in (n := 1) (by decide) (by omega)]; omega) (by omega) (by omega)
 rw [row_one (lit_row hd)] at hp
 exact hp
section
variable {s wd : ByteArray} {dp k : Nat} {rl ro : Except Int (Js × Nat)}
end
section
variable {s : ByteArray} {vs : Nat → Except Int (Js × Nat)} {k k' : Nat} {e : Int} {ts : List Js} {st : StO}
end
def DeepJ : Nat → Js → Prop
 | 0, _ => False
 | n + 1, j => ∀ x ∈ j.items, DeepJ n x
theorem rd_deepJ : ∀ {n : Nat} {L : List Nat} {w : World} {t : Tr}, RdT n L w t → DeepJ n t.er
 | 0, _, _, _, h => h
 | n + 1, _, _, _, h => fun x hx => by
  rw [er_items] at hx
  obtain ⟨c, hc, rfl⟩ := List.mem_map.1 hx
  exact rd_deepJ (h.2.2 c hc)
theorem rd_deep : ∀ {n m : Nat} {L : List Nat} {w : World} {t : Tr}, RdT m L w t → DeepJ n t.er → RdT n L w t
 | 0, _, _, _, _, _, h => h.elim
 | n + 1, 0, _, _, _, h, _ => h.elim
 | n + 1, m + 1, _, _, _, h, hd => ⟨h.1, h.2.1, fun c hc => rd_deep (h.2.2 c hc) (hd c.er (by rw [er_items]; exact List.mem_map.2 ⟨c, hc, rfl⟩))⟩
abbrev tNil (k : Int) : Tr := .mk k 0 ⟨#[]⟩ (.slice none 0 0) [] (.slice none 0 0) []
theorem tNil_er (k : Int) : (tNil k).er = .mk k 0 ⟨#[]⟩ [] [] := by rw [Tr.er_mk]; rfl
theorem tNil_rd (k : Int) (m : Nat) (L : List Nat) (w : World) : RdT (m + 1) L w (tNil k) := ⟨RdF.nil (by decide), RdF.nil (by decide), fun c hc => by cases hc⟩
def ObT (t : Tr) : Prop := t.er = .mk 6 0 ⟨#[]⟩ t.names (t.items.map Tr.er) ∧ Rises t.names ∧ t.names.length = t.items.length
theorem obT_nil : ObT (tNil 6) := ⟨tNil_er 6, List.Pairwise.nil, rfl⟩
theorem ObT.kind {t : Tr} (h : ObT t) : t.kind = 6 := by rw [← er_kind, h.1]; rfl
theorem ObT.get_t {t : Tr} (h : ObT t) {nm : ByteArray} (hg : (getT t nm).2 = true) : t.names[lbT nm t.names]? = some nm := by
  refine (mem_lb h.2.1).1 ?_
  rcases Classical.em (nm ∈ t.names) with hm | hm
  · exact hm
  · have e := getT_er t nm
    rw [getJ_none (by rw [er_names]; exact hm)] at e
    simp only [Prod.mk.injEq] at e
    rw [hg] at e
    cases e.2
theorem ObT.get_f {t : Tr} (h : ObT t) {nm : ByteArray} (hg : (getT t nm).2 = false) : ¬ t.names[lbT nm t.names]? = some nm := fun hn => by
 have hlt := (List.getElem?_eq_some_iff.1 hn).1
 have e := getT_er t nm
 rw [getJ_some (j := t.er) (by rw [er_kind]; exact h.kind) (by rw [er_names]; exact h.2.1) (by rw [er_names]; exact hn) (by rw [er_items]; exact List.getElem?_eq_getElem (by rw [List.length_map, ← h.2.2]; exact hlt))] at e
 simp only [Prod.mk.injEq] at e
 rw [hg] at e
 cases e.2
theorem ObT.put {t x u : Tr} (h : ObT t) {nm : ByteArray} (hn : ¬ t.names[lbT nm t.names]? = some nm) (hu : u.er = putJ t.er nm x.er) : ObT u ∧ u.names = insA (lbT nm t.names) nm t.names ∧ u.items.map Tr.er = insA (lbT nm t.names) x.er (t.items.map Tr.er) ∧ u.names.length = t.names.length + 1 := by
  have hle := lbT_le nm t.names
  rw [h.1, putJ_eq] at hu
  have e1 : u.names = insA (lbT nm t.names) nm t.names := by
    rw [← er_names, hu]
    show putN t.names nm = _
    unfold putN; rw [if_neg hn]
  have e2 : u.items.map Tr.er = insA (lbT nm t.names) x.er (t.items.map Tr.er) := by
    rw [← er_items, hu]
    show putT t.names nm (t.items.map Tr.er) x.er = _
    unfold putT; rw [if_neg hn]
  have l1 : u.names.length = t.names.length + 1 := by rw [e1, insA_len hle]
  refine ⟨⟨?_, by rw [e1]; exact rises_ins h.2.1 hn, ?_⟩, e1, e2, l1⟩
  · rw [hu, e1, e2]
    show Js.mk 6 0 ⟨#[]⟩ (putN t.names nm) (putT t.names nm (t.items.map Tr.er) x.er) = _
    unfold putN putT; rw [if_neg hn, if_neg hn]
  · have := congrArg List.length e2
    rw [List.length_map, insA_len (by rw [List.length_map, ← h.2.2]; exact hle), List.length_map] at this
    rw [l1, this, h.2.2]
theorem ObT.put_deep {t x u : Tr} (h : ObT t) {nm : ByteArray} {n m : Nat} {L : List Nat} {w : World} (hn : ¬ t.names[lbT nm t.names]? = some nm) (hu : u.er = putJ t.er nm x.er) (ht : RdT (n + 1) L w t) (hx : RdT n L w x) (hr : RdT m L w u) : RdT (n + 1) L w u := by
  refine rd_deep hr fun y hy => ?_
  rw [er_items, (h.put hn hu).2.2.1] at hy
  rcases mem_insA.1 hy with rfl | hy
  · exact rd_deepJ hx
  · refine rd_deepJ ht y ?_
    rw [er_items]; exact hy
abbrev PT := ByteArray × Tr
abbrev encP (p : PT) : List Value := .string p.1 :: encT p.2
abbrev erP (p : PT) : NJ := (p.1, p.2.er)
def okP (p : PT) : Bool := rightJ upB 12 p.2.er && upB p.1
section
variable {ps : List PT} {i : Nat} {r : PT} {zs : List NJ}
theorem make_1 (h : ps[i]? = some r) (hb : okP r = false) : makeJ (ps.map erP) = .error 1 := by
 unfold makeJ
 rw [if_neg fun ha => by have := List.all_eq_true.1 ha (erP r) (List.mem_map.2 ⟨r, List.mem_of_getElem? h, rfl⟩); unfold okP at hb; rw [this] at hb; cases hb]
theorem all_ok (h : ∀ j p, j < ps.length → ps[j]? = some p → okP p = true) : (ps.map erP).all (fun p => rightJ upB 12 p.2 && upB p.1) = true := by
 rw [List.all_eq_true]
 intro x hx
 obtain ⟨p, hp, rfl⟩ := List.mem_map.1 hx
 obtain ⟨j, hj⟩ := List.mem_iff_getElem?.1 hp
 exact h j p (List.getElem?_eq_some_iff.1 hj).1 hj
theorem make_6 (h : ∀ j p, j < ps.length → ps[j]? = some p → okP p = true) (hf : foldZ (ps.map erP) [] = none) : makeJ (ps.map erP) = .error 6 := by
 unfold makeJ; rw [if_pos (all_ok h), hf]
theorem make_4 (h : ∀ j p, j < ps.length → ps[j]? = some p → okP p = true) (hf : foldZ (ps.map erP) [] = some zs) (hr : ps[i]? = some r) (hd : 12 ≤ deepJ 13 r.2.er) : makeJ (ps.map erP) = .error 4 := by
 unfold makeJ; rw [if_pos (all_ok h), hf]; dsimp only
 rw [if_pos (List.any_eq_true.2 ⟨erP r, List.mem_map.2 ⟨r, List.mem_of_getElem? hr, rfl⟩, decide_eq_true hd⟩)]
theorem make_k (h : ∀ j p, j < ps.length → ps[j]? = some p → okP p = true) (hf : foldZ (ps.map erP) [] = some zs) (hd : ∀ j p, j < ps.length → ps[j]? = some p → ¬ 12 ≤ deepJ 13 p.2.er) : makeJ (ps.map erP) = .ok (.mk 6 0 ⟨#[]⟩ (zs.map Prod.fst) (zs.map Prod.snd)) := by
 unfold makeJ; rw [if_pos (all_ok h), hf]; dsimp only
 rw [if_neg fun ha => by
  obtain ⟨x, hx, hx2⟩ := List.any_eq_true.1 ha
  obtain ⟨p, hp, rfl⟩ := List.mem_map.1 hx
  obtain ⟨j, hj⟩ := List.mem_iff_getElem?.1 hp
  exact hd j p (List.getElem?_eq_some_iff.1 hj).1 hj (of_decide_eq_true hx2)]
theorem drop_er (h : ps[i]? = some r) : (ps.map erP).drop i = erP r :: (ps.map erP).drop (i + 1) := by
 obtain ⟨hlt, he⟩ := List.getElem?_eq_some_iff.1 h
 rw [List.drop_eq_getElem_cons (by rw [List.length_map]; exact hlt), List.getElem_map, he]
theorem fold_x (h : ps[i]? = some r) (hf : foldZ (ps.map erP) [] = foldZ ((ps.map erP).drop i) zs) (hn : (zs.map Prod.fst)[lbT r.1 (zs.map Prod.fst)]? = some r.1) : foldZ (ps.map erP) [] = none := by
 rw [hf, drop_er h, foldZ, if_pos hn]
theorem fold_go (h : ps[i]? = some r) (hf : foldZ (ps.map erP) [] = foldZ ((ps.map erP).drop i) zs) (hn : ¬ (zs.map Prod.fst)[lbT r.1 (zs.map Prod.fst)]? = some r.1) : foldZ (ps.map erP) [] = foldZ ((ps.map erP).drop (i + 1)) (insA (lbT r.1 (zs.map Prod.fst)) (erP r) zs) := by
 rw [hf, drop_er h, foldZ, if_neg hn]
theorem fold_end (hi : i = ps.length) (hf : foldZ (ps.map erP) [] = foldZ ((ps.map erP).drop i) zs) : foldZ (ps.map erP) [] = some zs := by
 rw [hf, List.drop_eq_nil_of_le (by rw [List.length_map]; omega), foldZ]
end
end Go.Proofs.Ytpinidlfcifeeaa
namespace Go.Proofs.Ytpinidlfcifeeaa
open Go.RowKit Go.Sort Go.Shelf Go.Lib
set_option linter.unusedVariables false
section
variable {α : Type} [Inhabited α]
theorem flatK_eq (enc : α → List Value) (k : Nat) (h0 : 0 < k) (hk : ∀ x, (enc x).length = k) (d : Array α) : (flatK enc k d).toList = (d.toList.map enc).flatten := by
 have hr : ∀ r ∈ d.toList.map enc, r.length = k := fun r hr => by obtain ⟨x, _, rfl⟩ := List.mem_map.1 hr; exact hk x
 have hl : (d.toList.map enc).flatten.length = d.size * k := by rw [flat_len hr, List.length_map]; rfl
 refine List.ext_getElem (by rw [Array.length_toList, size_flatK, hl]) fun t h1 h2 => ?_
 rw [hl] at h2
 have hq : t / k < d.size := (Nat.div_lt_iff_lt_mul h0).2 h2
 have hm : t % k < k := Nat.mod_lt _ h0
 have ht : t / k * k + t % k = t := Nat.div_add_mod' t k
 have e1 : (flatK enc k d)[t]! = (enc d[t / k]!)[t % k]! := get_flatK enc k d t h2
 have e2 := flat_row hr (i := t / k) (r := enc d[t / k]!) (by rw [List.getElem?_map, Array.getElem?_toList, Array.getElem?_eq_getElem hq, getElem!_pos d _ hq]; rfl)
 rw [Array.getElem_toList, ← getElem!_pos _ t (by rw [size_flatK]; exact h2), e1, getElem!_pos _ _ (by rw [hk]; exact hm)]
 have e3 : ((d.toList.map enc).flatten)[t]? = some ((enc d[t / k]!)[t % k]'(by rw [hk]; exact hm)) := by
  have : (((d.toList.map enc).flatten.drop (t / k * k)).take k)[t % k]? = (enc d[t / k]!)[t % k]? := by rw [e2]
  rw [List.getElem?_take, if_pos hm, List.getElem?_drop, ht] at this
  rw [this, List.getElem?_eq_getElem]
 exact ((List.getElem?_eq_some_iff.1 e3).2).symm
theorem OwS.holdsK {k : Nat} {w : World} {v : Value} {B : Nat} {enc : α → List Value} {d : Array α} (hk : ∀ x, (enc x).length = k) (h : OwS k w v (d.toList.map enc) B) : ∃ cap cur t, v = .slice (some ⟨B, 0, none⟩) d.size cap ∧ d.size ≤ cap ∧ cap ≤ maxLen ∧ w.heap[B]? = some (.cells cur t (0, 0)) ∧ cur.size = cap * k ∧ HoldsK enc k w B 0 d := by
  obtain ⟨h0, hr, cap, sp, rfl, h1, h2, h3, t, hb⟩ := h
  have hfl : (d.toList.map enc).flatten.length = d.size * k := by rw [flat_len hr, List.length_map]; rfl
  simp only [List.length_map, Array.length_toList] at h1 h3
  have hle : d.size * k ≤ cap * k := Nat.mul_le_mul_right _ h1
  refine ⟨cap, _, t, by simp, h1, h2, hb, ?_, fun j hj => ?_⟩
  · simp [hfl, h3, Nat.sub_mul]; omega
  · rw [size_flatK] at hj
    refine ⟨?_, by simp [World.frozen?, hb]⟩
    refine (Blk.range ⟨t, hb⟩) j _ ?_
    rw [List.getElem?_append_left (by rw [hfl]; exact hj), ← flatK_eq enc k h0 hk, Array.getElem?_toList, getElem!_pos _ j (by rw [size_flatK]; exact hj), Array.getElem?_eq_getElem]
    rfl
theorem putCells_id (F c : Array Value) (h : F.size ≤ c.size) : putCells id 0 F c = (F.toList ++ c.toList.drop F.size).toArray := by
  apply Array.ext
  · simp [putCells]; omega
  · intro i h1 h2
    have hi : i < c.size := by simpa [putCells] using h1
    simp only [putCells, Array.getElem_mapIdx, List.getElem_toArray, List.getElem_append, Array.length_toList]
    by_cases hf : i < F.size
    · rw [if_pos ⟨Nat.zero_le _, by omega⟩, dif_pos hf, Nat.sub_zero, getElem!_pos F i hf]; rfl
    · rw [if_neg (by omega), dif_neg hf, List.getElem_drop, Array.getElem_toList]
      congr 1; omega
theorem heap_sortK {w : World} {B n k : Nat} {os : Array Obj} {cur : Array Value} {t : TypeId} {enc : α → List Value} {d : Array α} (hb : w.heap[B]? = some (.cells cur t (0, 0))) : (sortWorldK enc k w B 0 n d os).heap[B]? = some (.cells (putCells id 0 (flatK enc k d) cur) t (0, 0)) := by
 have hg : B < w.heap.size := (Array.getElem?_eq_some_iff.1 hb).1
 unfold sortWorldK putRowK
 rw [heap_grow_old _ _ (by simpa [putRow, mapBlock, Sort.ahead] using hg)]
 simp [putRow, mapBlock, Sort.ahead, Array.getElem?_modify, hb, onCells]
theorem chg_sortK {w : World} {B n k : Nat} {os : Array Obj} {enc : α → List Value} {d : Array α} : Chg B w (sortWorldK enc k w B 0 n d os) := by
 unfold sortWorldK putRowK
 refine ⟨rfl, rfl, rfl, by simp [putRow, mapBlock, Sort.ahead, grow], fun j hj hne => ?_⟩
 rw [heap_grow_old _ _ (by simpa [putRow, mapBlock, Sort.ahead] using hj)]
 simp [putRow, mapBlock, Sort.ahead, Array.getElem?_modify, Ne.symm hne]
theorem own_sortK {w : World} {B n k cap : Nat} {os : Array Obj} {cur : Array Value} {t : TypeId} {enc : α → List Value} {d : Array α} (h0 : 0 < k) (hk : ∀ x, (enc x).length = k) (hb : w.heap[B]? = some (.cells cur t (0, 0))) (hs : cur.size = cap * k) (hn : d.size ≤ cap) (hc : cap ≤ maxLen) : OwS k (sortWorldK enc k w B 0 n d os) (.slice (some ⟨B, 0, none⟩) d.size cap) (d.toList.map enc) B := by
 have hle : d.size * k ≤ cap * k := Nat.mul_le_mul_right _ hn
 refine ⟨h0, fun r hr => by obtain ⟨x, _, rfl⟩ := List.mem_map.1 hr; exact hk x, cap, cur.toList.drop (d.size * k), by simp, by simpa using hn, hc, ?_, t, ?_⟩
 · rw [List.length_drop, Array.length_toList, hs, List.length_map, Array.length_toList, Nat.sub_mul]
 · rw [heap_sortK hb, putCells_id _ _ (by rw [size_flatK, hs]; exact hle), flatK_eq enc k h0 hk, size_flatK]
theorem permIn_list {d d' : Array α} (h : PermIn 0 d.size d d') : d'.toList.Perm d.toList := by
 obtain ⟨h1, _, h3⟩ := h
 have e1 : d.extract 0 d.size = d := Array.extract_size
 have e2 : d'.extract 0 d.size = d' := by rw [← h1]; exact Array.extract_size
 rwa [e1, e2] at h3
theorem sortedIn_list {lt : α → α → Bool} {d : Array α} {n : Nat} (hn : d.size = n) (h : SortedIn lt 0 n d) : d.toList.Pairwise fun x y => lt y x = false := by
 rw [List.pairwise_iff_getElem]
 intro i j hi hj hij
 rw [Array.length_toList] at hi hj
 have := h i j (Nat.zero_le _) hij (by omega)
 rwa [getElem!_pos d i hi, getElem!_pos d j hj] at this
end
end Go.Proofs.Ytpinidlfcifeeaa
namespace Go.Proofs.Ytpinidlfcifeeaa
open Go.RowKit
set_option linter.unusedVariables false
set_option linter.unusedSimpArgs false
set_option maxRecDepth 8000
set_option maxHeartbeats 2000000

open Go.Sort Go.Shelf Go.Lib
shelf_lay_g SlLaysF0.n6 Slsf 6 at Try 55 as sortP
def PO := {p : PT // p.2.nv.oneCell' = true ∧ p.2.iv.oneCell' = true}
instance : Inhabited PO := ⟨⟨(⟨#[]⟩, tNil 0), rfl, rfl⟩⟩
abbrev encO (x : PO) : List Value := encP x.1
abbrev cmpO (x y : PO) : Int := cmpP x.1 y.1
theorem ltO (x y : PO) : ltOf cmpO x y = sless x.1.1 y.1.1 := by
 unfold ltOf cmpO cmpP
 cases h1 : sless x.1.1 y.1.1 with
 | true => rw [if_pos rfl]; rfl
 | false =>
  rw [if_neg (by decide)]
  cases h2 : sless y.1.1 x.1.1 <;> simp
theorem swoO : SWO (ltOf cmpO) where
  irrefl x := by rw [ltO]; exact sless_irrefl _
  trans x y z h1 h2 := by rw [ltO] at *; exact sless_trans _ _ _ h1 h2
  ntrans x y z h1 h2 := by
    rw [ltO] at *
    rcases sless_tri x.1.1 y.1.1 with ⟨p, _, _⟩ | ⟨_, p, _⟩ | p
    · rw [p] at h1; cases h1
    · rcases sless_tri y.1.1 z.1.1 with ⟨q, _, _⟩ | ⟨_, q, _⟩ | q
      · rw [q] at h2; cases h2
      · exact sless_asymm (sless_trans _ _ _ q p)
      · rw [← q]; exact sless_asymm p
    · rw [p]; exact h2
theorem lensO (x : PO) : (encO x).length = 6 := rfl
theorem ocO (x : PO) : ∀ v ∈ encO x, v.oneCell' = true := oc_cons rfl (oc_cons rfl (oc_cons rfl (oc_cons rfl (oc_cons x.2.1 (oc_cons x.2.2 oc_nil)))))
theorem cmpLaysO (blk off size : Nat) (w : World) : CmpLays Try.prog 56 #[] encO 6 cmpO blk off size w := fun _ _ _ _ x y => make1_grow x.1.1 y.1.1 x.1.2.text y.1.2.text x.1.2.kind y.1.2.kind x.1.2.num y.1.2.num x.1.2.nv y.1.2.nv x.1.2.iv y.1.2.iv x.2.1 x.2.2 y.2.1 y.2.2 _
theorem sortP_own (hS : ∀ (blk off cap : Nat) (d : Array PO) (w : World), HoldsK encO 6 w blk off d → blk < w.heap.size → d.size < 4611686018427387904 → Calls Try.prog 55 #[.slice (some ⟨blk, off, none⟩) d.size cap, .func (.func 56) #[] #[]] w fun e w' => e = .returned (.tuple #[]) ∧ ∃ d' n os, PermIn 0 d.size d d' ∧ SortedIn (ltOf cmpO) 0 d.size d' ∧ w' = sortWorldK encO 6 w blk off n d' os)
  {w : World} {v : Value} {d : List PO} {B : Nat} (h : OwS 6 w v (d.map encO) B) (hlen : d.length ≤ 1000000) : Calls Try.prog 55 #[v, .func (.func 56) #[] #[]] w fun e w' => ∃ qs : List PO, e = .returned (.tuple #[]) ∧ qs.Perm d ∧ (qs.Pairwise fun x y => sless y.1.1 x.1.1 = false) ∧ OwS 6 w' v (qs.map encO) B ∧ Chg B w w' := by
 have hlt := h.lt
 obtain ⟨cap, cur, t, rfl, h1, h2, h3, h4, h5⟩ := OwS.holdsK (enc := encO) (d := d.toArray) lensO h
 refine (hS B 0 cap d.toArray w h5 hlt (by simp; omega)).mono ?_
 rintro e w' ⟨rfl, d', n, os, hp, hs, rfl⟩
 have hsz : d'.size = d.toArray.size := hp.1
 refine ⟨d'.toList, rfl, by simpa using permIn_list hp, (sortedIn_list hsz hs).imp fun {x y} h => by rw [ltO] at h; exact h, ?_, chg_sortK⟩
 have := own_sortK (n := n) (os := os) (enc := encO) (d := d') (by decide) lensO h3 h4 (by rw [hsz]; exact h1) h2
 rwa [hsz] at this
theorem sortP_new (hS : ∀ (blk off cap : Nat) (d : Array PO) (w : World), HoldsK encO 6 w blk off d → blk < w.heap.size → d.size < 4611686018427387904 → Calls Try.prog 55 #[.slice (some ⟨blk, off, none⟩) d.size cap, .func (.func 56) #[] #[]] w fun e w' => e = .returned (.tuple #[]) ∧ ∃ d' n os, PermIn 0 d.size d d' ∧ SortedIn (ltOf cmpO) 0 d.size d' ∧ w' = sortWorldK encO 6 w blk off n d' os)
    (hN : ∀ (p : Option Addr) (cap : Nat) (fv : Value) (w : World), Calls Try.prog 55 #[.slice p 0 cap, fv] w fun e w' => e = .returned (.tuple #[]) ∧ w' = w)
    {w : World} {v : Value} {d : List PO} {base : Nat} (h : NewW 6 base (d.map encO) v w) (hb : base ≤ w.heap.size) (hlen : d.length ≤ 1000000) : Calls Try.prog 55 #[v, .func (.func 56) #[] #[]] w fun e w' => ∃ qs : List PO, e = .returned (.tuple #[]) ∧ qs.Perm d ∧ (qs.Pairwise fun x y => sless y.1.1 x.1.1 = false) ∧ NewW 6 base (qs.map encO) v w' ∧ Go.RowKit.Below base w w' := by
  rcases h with ⟨rfl, h, _⟩ | ⟨B, h1, h2⟩
  · have hd : d = [] := by simpa using h
    subst hd
    exact (hN none 0 _ w).mono fun e w' ⟨h1, h2⟩ => ⟨[], h1, .refl _, .nil, .inl ⟨rfl, rfl, by decide⟩, by rw [h2]; exact Go.RowKit.Below.refl _ _⟩
  · exact (sortP_own hS h2 hlen).mono fun e w' ⟨qs, h3, h4, h5, h6, h7⟩ => ⟨qs, h3, h4, h5, .inr ⟨B, h1, h6⟩, h7.from_base h1 hb⟩
open Go.Sort Go.Shelf Go.Lib Go.Proofs
theorem aggP (w : World) : (isAgg 43).run Try.prog w = .ok true w := by
 unfold isAgg
 simp only [Sem.run_bind, run_underlying Try.underlying43, Result.andThen_ok, Sem.run_pure]
theorem sizeP (w : World) : (Go.sizeOf 43).run Try.prog w = .ok 6 w := by
 have h : sizeB Try.prog 43 6 = true := by kernel_rfl
 unfold sizeB at h
 unfold Go.sizeOf typeInfo
 cases hi : Try.prog.info? 43 with
 | none => rw [hi] at h; cases h
 | some q =>
  have hq : q.size = 6 := by simpa [hi] using h
  simp [Sem.run_bind, run_program, hi, Result.andThen_ok, Sem.run_pure, hq]
theorem sortP_v {w : World} {v : Value} {d : List PO} {base : Nat} (h : NewW 6 base (d.map encO) v w) (hb : base ≤ w.heap.size) (hlen : d.length ≤ 1000000) : Calls Try.prog 55 #[v, .func (.func 56) #[] #[]] w fun e w' => ∃ qs : List PO, e = .returned (.tuple #[]) ∧ qs.Perm d ∧ (qs.Pairwise fun x y => sless y.1.1 x.1.1 = false) ∧ NewW 6 base (qs.map encO) v w' ∧ Go.RowKit.Below base w w' :=
 sortP_new (fun blk off cap d w hH hblk hsz => AnyQ.slices_SortFunc sortP 6 aggP sizeP encO lensO ocO cmpO swoO 56 #[] blk off cap d w (enters_of Try.func56 (by kernel_rfl) rfl) (cmpLaysO blk off d.size w) hH hblk hsz)
  (fun p cap fv w => AnyF.slices_SortFunc_none sortP p cap fv w) h hb hlen

theorem PO_list : ∀ (ps : List PT), (∀ p ∈ ps, p.2.nv.oneCell' = true ∧ p.2.iv.oneCell' = true) → ∃ d : List PO, d.map (fun x => x.1) = ps
 | [], _ => ⟨[], rfl⟩
 | p :: ps, h => by
  obtain ⟨d, hd⟩ := PO_list ps fun q hq => h q (.tail _ hq)
  exact ⟨⟨p, h p (.head _)⟩ :: d, congrArg (List.cons p) hd⟩
theorem sortQ_v {w : World} {v : Value} {ps : List PT} {base : Nat} (ho : ∀ p ∈ ps, p.2.nv.oneCell' = true ∧ p.2.iv.oneCell' = true) (h : NewW 6 base (ps.map encP) v w) (hb : base ≤ w.heap.size) (hlen : ps.length ≤ 1000000) : Calls Try.prog 55 [v, .func (.func 56) #[] #[]].toArray w fun e w' => ∃ x, e = .returned x ∧ ((∃ ss : List PT, ss.Perm ps ∧ (ss.Pairwise fun x y => sless y.1 x.1 = false) ∧ NewW 6 base (ss.map encP) v w') ∧ Go.RowKit.Below base w w') := by
 obtain ⟨d, hd⟩ := PO_list ps ho
 have e : ∀ l : List PO, l.map encO = (l.map (fun x => x.1)).map encP := fun l => by rw [List.map_map]; rfl
 rw [← hd, ← e] at h
 refine (sortP_v h hb (by rw [← hd, List.length_map] at hlen; exact hlen)).mono ?_
 rintro x w' ⟨qs, h1, h2, h3, h4, h5⟩
 refine ⟨_, h1, ⟨qs.map (fun x => x.1), ?_, ?_, ?_⟩, h5⟩
 · rw [← hd]; exact h2.map _
 · exact List.pairwise_map.2 h3
 · rw [← e]; exact h4
def nmA (ss : List PT) (i : Nat) : List ByteArray := (ss.take i).map Prod.fst
def itA (ss : List PT) (i : Nat) : List Tr := (ss.take i).map Prod.snd
theorem rises_snoc {l : List ByteArray} {p r : ByteArray} (h : Rises (l ++ [p])) (hr : sless p r = true) : Rises (l ++ [p] ++ [r]) := by
 refine List.pairwise_append.2 ⟨h, List.pairwise_singleton _ _, fun a ha b hb => ?_⟩
 rw [List.mem_singleton.1 hb]
 rcases List.mem_append.1 ha with h1 | h1
 · exact sless_trans _ _ _ ((List.pairwise_append.1 h).2.2 a h1 p (.head _)) hr
 · rw [List.mem_singleton.1 h1]; exact hr
section
variable {ss ps : List PT} {i : Nat} {r p : PT}
theorem nmA_add (h : ss[i]? = some r) : nmA ss (i + 1) = nmA ss i ++ [r.1] := by unfold nmA; rw [List.take_add_one, h, List.map_append]; rfl
theorem itA_add (h : ss[i]? = some r) : itA ss (i + 1) = itA ss i ++ [r.2] := by unfold itA; rw [List.take_add_one, h, List.map_append]; rfl
theorem nmA_len (ss : List PT) (i : Nat) : (nmA ss i).length ≤ i := by unfold nmA; rw [List.length_map, List.length_take]; omega
theorem itA_len (ss : List PT) (i : Nat) : (itA ss i).length ≤ i := by unfold itA; rw [List.length_map, List.length_take]; omega
theorem nmA_all (h : i = ss.length) : nmA ss i = (ss.map erP).map Prod.fst := by unfold nmA; rw [h, List.take_length, List.map_map]; rfl
theorem itA_all (h : i = ss.length) : (itA ss i).map Tr.er = (ss.map erP).map Prod.snd := by unfold itA; rw [h, List.take_length, List.map_map, List.map_map]; rfl
theorem rises_add (hp : ss.Pairwise fun x y => sless y.1 x.1 = false) (hr : Rises (nmA ss i)) (h : ss[i]? = some r) (hn : 0 < i → ∀ q, ss[i - 1]? = some q → q.1 ≠ r.1) : Rises (nmA ss (i + 1)) := by
 rw [nmA_add h]
 cases i with
 | zero => exact List.pairwise_singleton _ _
 | succ k =>
  obtain ⟨h1, rfl⟩ := List.getElem?_eq_some_iff.1 h
  have hq := List.getElem?_eq_getElem (l := ss) (i := k) (by omega)
  rw [nmA_add hq] at hr ⊢
  refine rises_snoc hr ?_
  have h2 := List.pairwise_iff_getElem.1 hp k (k + 1) (by omega) h1 (by omega)
  rcases sless_tri (ss[k]).1 (ss[k + 1]).1 with ⟨a, _, _⟩ | ⟨_, a, _⟩ | a
  · exact a
  · rw [a] at h2; cases h2
  · exact absurd a (hn (by omega) _ hq)
theorem dup_not (h0 : 0 < i) (h : ss[i]? = some r) (hq : ss[i - 1]? = some p) (e : p.1 = r.1) : foldZ (ss.map erP) [] = none := by
 refine foldZ_twice fun hn => ?_
 obtain ⟨h1, rfl⟩ := List.getElem?_eq_some_iff.1 h
 obtain ⟨h2, rfl⟩ := List.getElem?_eq_some_iff.1 hq
 have := List.pairwise_iff_getElem.1 hn (i - 1) i (by simpa using h2) (by simpa using h1) (by omega)
 simp only [List.getElem_map] at this
 exact this e
theorem ok_perm (hp : ss.Perm ps) (h : ∀ j p, j < ps.length → ps[j]? = some p → okP p = true) : ∀ j p, j < ss.length → ss[j]? = some p → okP p = true := fun j p _ hj => by
 obtain ⟨k, hk⟩ := List.mem_iff_getElem?.1 (hp.mem_iff.1 (List.mem_of_getElem? hj))
 exact h k p (List.getElem?_eq_some_iff.1 hk).1 hk
theorem mk_perm (hp : ss.Perm ps) : makeJ (ps.map erP) = makeJ (ss.map erP) := makeJ_perm (hp.map erP).symm
end
theorem deepMk_v (n : Nat) (ns : List ByteArray) (ts : List Tr) (nv iv : Value) (w : World) (L : List Nat) (hL : LL L w) (h : RdT (n + 2) L w (.mk 6 0 ⟨#[]⟩ nv ns iv ts)) : CV Try.prog 20 [.agg #[.int .i64 6, .int .i64 0, .string ⟨#[]⟩, nv, iv]] w fun v W => ∃ d : Nat, v = .int .i64 (d : Int) ∧ (12 < d ↔ ∃ x ∈ ts, 12 ≤ deepJ 13 x.er) := by
  have e := jDeep_v (n + 1) (.mk 6 0 ⟨#[]⟩ nv ns iv ts) w L hL h
  refine e.mono fun v W _ hv => ⟨_, hv, ?_⟩
  rw [deep_node (.inr rfl)]
  constructor
  · intro h1
    refine Classical.byContradiction fun h2 => ?_
    have : maxJ (deepJ 12) ((Tr.mk 6 0 ⟨#[]⟩ nv ns iv ts).items.map Tr.er) ≤ 11 := maxJ_iff.2 fun j hj => by
      obtain ⟨x, hx, rfl⟩ := List.mem_map.1 hj
      have h3 : deepJ 12 x.er = min 12 (deepJ 13 x.er) := deep_min 12 x.er
      have h4 : ¬ 12 ≤ deepJ 13 x.er := fun q => h2 ⟨x, hx, q⟩
      omega
    omega
  · rintro ⟨x, hx, h2⟩
    refine Classical.byContradiction fun h1 => ?_
    have h3 := maxJ_iff.1 (show maxJ (deepJ 12) ((Tr.mk 6 0 ⟨#[]⟩ nv ns iv ts).items.map Tr.er) ≤ 11 by omega) x.er (List.mem_map.2 ⟨x, hx, rfl⟩)
    have h4 : deepJ 12 x.er = min 12 (deepJ 13 x.er) := deep_min 12 x.er
    omega
set_option maxHeartbeats 1000000 in
theorem jMake_v (n : Nat) (ps : List PT) (gv : Value) (w : World) (L : List Nat) (hL : LL L w) (hgv : RdF 6 L w gv (ps.map encP)) (hps : RdTs (n + 1) L w (ps.map Prod.snd))  (hlen : ps.length ≤ 1000000) (hzs : ∀ p ∈ ps, SzT 1000000 (n + 1) p.2 ∧ p.1.size ≤ 1000000) : CV Try.prog 29 [gv] w fun v W => (∃ t m, v = .tuple #[.agg #[.int .i64 t.kind, .int .i64 t.num, .string t.text, t.nv, t.iv], .int .i64 0] ∧ makeJ (ps.map erP) = .ok t.er ∧ RdT (m + 1) L W t) ∨ (∃ e, v = .tuple #[.agg #[.int .i64 0, .int .i64 0, .string ⟨#[]⟩, .slice none 0 0, .slice none 0 0], .int .i64 e] ∧ e ≠ 0 ∧ makeJ (ps.map erP) = .error e) := by
 refine cv_enter (N := 75) (f := [(0, gv)]) Try.func29 rfl rfl rfl rfl fun Q hQ hE => ?_
 have hB := Below.refl w.heap.size w
 have hL0 := hL
 have hgvm : ps.length ≤ maxLen := by have := hgv.len; rwa [List.length_map] at this
 unfold maxLen at hgvm
 refine Sq fun K1 hK1 => (Rg ?_)
 refine Ge (dx_alloc rfl ty_zero_26 rfl) rfl rfl ?_
 rintro _ W2 ⟨rfl, k3, b4, z5⟩
 have l6 := hB.size
 replace hgv := hgv.more b4 (Nat.le_refl _)
 replace hps := hps.more b4 (Nat.le_refl _)
 replace hB := below_then hB b4
 replace hL := LL.more hL z5
 refine Pu rfl (Ni (hK1 (Sq fun K7 hK7 => (Sq fun K8 hK8 => (Rg (Pu rfl (Va (dx_lenFM rfl ty_slice_40 rfl hgv) rfl rfl ?_)))))))
 refine Pu rfl (Ni (hK8 (WC.block ?_)))
 refine WC.loop (fun (i : Nat) => [(0, gv), (2, .pointer (some ⟨w.heap.size, 0, none⟩)), (10, gv), (11, .int .i64 (ps.length : Int)), (12, .int .i64 (i : Int))]) (fun (i : Nat) W => i ≤ ps.length ∧ (∀ j p, j < i → ps[j]? = some p → okP p = true) ∧ Below w.heap.size w W ∧ LL (w.heap.size :: L) W ∧ RdF 6 (w.heap.size :: L) W gv (ps.map encP) ∧ RdTs (n + 1) (w.heap.size :: L) W (ps.map Prod.snd) ∧ Blk W w.heap.size [.int .i64 0, .int .i64 0, .string ⟨#[]⟩, .slice none 0 0, .slice none 0 0]) (fun (i : Nat) => ps.length - i) 0 (by repeat first | exact trivial | exact And.intro rfl trivial | refine And.intro rfl ?_ | refine And.intro (congrArg (fun z : Int => some (Value.int .i64 z)) (by omega)) ?_) ⟨(Nat.zero_le _), (fun j p h => by omega), hB, hL, hgv, hps, k3⟩ ?_
 clear hgv hps k3 hB hL
 rintro K9 i W10 ⟨hi, hall, hB, hL, hgv, hps, k3⟩ hK9
 refine Sq fun K11 hK11 => (Rg (Va (dx_lss rfl rfl rfl) rfl rfl (Ni (hK11 (Sq fun K12 hK12 => ?_)))))
 refine WC.cond rfl (fun c13 => ?_) (fun c13 => ?_)
 ·
  replace c13 := dT c13
  refine WC.skip (hK12 (Sq fun K14 hK14 => (WC.block (Sq fun K15 hK15 => (Rg ?_)))))
  obtain ⟨r16, e17⟩ : ∃ x, ps[i]? = some x := ⟨_, List.getElem?_eq_getElem (by omega)⟩
  have hzr16 := (hzs r16 (List.mem_of_getElem? e17)).2
  refine Ge (dx_idxF i rfl ty_slice_40 rfl rfl hgv (by omega) (at_mapX e17)) rfl rfl ?_
  rintro u18 _ ⟨rfl, p19⟩
  refine Va (dx_loadPN rfl ty_agg_43_6 rfl p19 rfl) rfl rfl ?_
  refine Ge (dx_alloc rfl ty_zero_43 rfl) rfl rfl ?_
  rintro _ W20 ⟨rfl, k21, b22, z23⟩
  have n24 : w.heap.size ≠ W10.heap.size := Nat.ne_of_lt k3.lt
  have l25 := hB.size
  replace hgv := hgv.more b22 (Nat.le_refl _)
  replace hps := hps.more b22 (Nat.le_refl _)
  replace k3 := k3.below b22
  replace hB := below_then hB b22
  replace hL := LL.more hL z23
  refine WL.do (dx_store (cs' := [.string r16.1, .int .i64 r16.2.kind, .int .i64 r16.2.num, .string r16.2.text, r16.2.nv, r16.2.iv]) (vs := [.string r16.1, .int .i64 r16.2.kind, .int .i64 r16.2.num, .string r16.2.text, r16.2.nv, r16.2.iv]) rfl ty_size_43_6 rfl rfl rfl (oc_cons rfl (oc_cons rfl (oc_cons rfl (oc_cons rfl (oc_cons ((hps r16.2 (List.mem_map.2 ⟨r16, List.mem_of_getElem? e17, rfl⟩)).1).one (oc_cons ((hps r16.2 (List.mem_map.2 ⟨r16, List.mem_of_getElem? e17, rfl⟩)).2.1).one oc_nil)))))) k21 rfl (Nat.le_of_ble_eq_true rfl) rfl) rfl ?_
  rintro _ W26 ⟨k28, o27⟩
  replace k3 := k3.other o27 n24
  clear k21
  replace hgv := hgv.only o27 (.head _)
  replace hps := hps.only o27 (.head _)
  replace hB := o27.below hB l25
  replace hL := LL.only hL o27
  refine Ni (hK15 (Sq fun K29 hK29 => (Rg (Va (dx_fld (o1 := 1) rfl ty_fld_43_1_1 rfl rfl) rfl rfl (Va (dx_loadN (cs := [.int .i64 r16.2.kind, .int .i64 r16.2.num, .string r16.2.text, r16.2.nv, r16.2.iv]) rfl ty_agg_26_5 rfl (k28.part 1 5) rfl) rfl rfl ?_)))))
  refine Ge (dx_cv rfl Try.func15 rfl rfl rfl (jRight_v n r16.2 W26 _ hL (hps r16.2 (List.mem_map.2 ⟨r16, List.mem_of_getElem? e17, rfl⟩)) (hzs r16 (List.mem_of_getElem? e17)).1)) rfl rfl ?_
  rintro _ W31 ⟨rfl, b30⟩
  replace hgv := hgv.below b30
  replace hps := hps.below b30
  replace k3 := k3.below b30
  replace k28 := k28.below b30
  replace hB := below_then hB b30
  replace hL := LL.below hL b30
  refine Va (dx_not rfl rfl) rfl rfl (Pu rfl ?_)
  refine WL.split 20 rfl (fun g32 => ?_) (fun g32 => ?_)
  ·
   replace g32 := bnot_t g32
   refine Of rfl (Of rfl (Of rfl (Of rfl (Of rfl (Pu rfl (Ni (hK29 ?_)))))))
   refine WC.condT rfl (Sq fun K33 hK33 => (Rg (Va (dx_build rfl rfl (built_of_O (cs := zV) (by kernel_rfl) oc_nil)) rfl rfl ?_)))
   refine WL.do (dx_store (cs' := zV) (vs := zV) rfl ty_size_26_5 rfl rfl rfl (oc_cons rfl (oc_cons rfl (oc_cons rfl (oc_cons rfl (oc_cons rfl oc_nil))))) k3 rfl (Nat.le_of_ble_eq_true rfl) rfl) rfl ?_
   rintro _ W34 ⟨k36, o35⟩
   clear k3
   replace hB := o35.below hB l6
   refine Pu rfl (Ni (hK33 ?_))
   exact WC.ret fun a_ ha_ => hQ (cv_ret2 rfl (.agg rfl ty_agg_26_5 k36.range rfl) (.tmp rfl) (.inr ⟨1, rfl, by decide, make_1 e17 (by unfold okP; simp_all)⟩) hB ha_)
  ·
   replace g32 := bnot_f g32
   refine Va (dx_fld (o1 := 0) rfl ty_fld_43_0_0 rfl rfl) rfl rfl (Va (dx_load rfl ty_one_9 rfl (k28.cell (k := 0) rfl)) rfl rfl ?_)
   refine Ge (dx_sb (L := W10.heap.size :: w.heap.size :: L) rfl Try.underlying9 Try.underlying50 Try.underlying5 rfl hL (by unfold maxLen; omega)) rfl rfl ?_
   rintro u37 W38 ⟨k39, b40⟩
   replace hgv := hgv.below b40
   replace hps := hps.below b40
   replace k3 := k3.below b40
   replace hB := below_then hB b40
   replace hL := LL.below hL b40
   refine Ge (dx_cv rfl Try.func32 rfl rfl rfl ((show CV _ _ [_] _ (fun v _ => v = .bool (upB r16.1)) from cv_oldB (right_any u37 (sb r16.1) W38 (rdI_of k39) (sb_bytes _) (by rw [sb_length]; omega))))) rfl rfl ?_
   rintro _ W42 ⟨rfl, b41⟩
   replace hgv := hgv.below b41
   replace hps := hps.below b41
   replace k3 := k3.below b41
   replace hB := below_then hB b41
   replace hL := LL.below hL b41
   refine Va (dx_not rfl rfl) rfl rfl (Pu rfl (Ni (hK29 ?_)))
   refine WC.cond rfl (fun c43 => ?_) (fun c43 => ?_)
   ·
    replace c43 := bnot_t c43
    refine Sq fun K44 hK44 => (Rg (Va (dx_build rfl rfl (built_of_O (cs := zV) (by kernel_rfl) oc_nil)) rfl rfl ?_))
    refine WL.do (dx_store (cs' := zV) (vs := zV) rfl ty_size_26_5 rfl rfl rfl (oc_cons rfl (oc_cons rfl (oc_cons rfl (oc_cons rfl (oc_cons rfl oc_nil))))) k3 rfl (Nat.le_of_ble_eq_true rfl) rfl) rfl ?_
    rintro _ W45 ⟨k47, o46⟩
    clear k3
    replace hB := o46.below hB l6
    refine Pu rfl (Ni (hK44 ?_))
    exact WC.ret fun a_ ha_ => hQ (cv_ret2 rfl (.agg rfl ty_agg_26_5 k47.range rfl) (.tmp rfl) (.inr ⟨1, rfl, by decide, make_1 e17 (by unfold okP; simp_all)⟩) hB ha_)
   ·
    replace c43 := bnot_f c43
    refine WC.skip (hK14 (Rg (Va (dx_add (r := (i : Int) + 1) rfl rfl rfl (wrap64_id (by omega))) rfl rfl (Pu rfl (Ni ?_)))))
    replace hL := hL.less (fun x hx => (.tail _ hx))
    replace hgv := hgv.less (fun x hx => (.tail _ hx))
    replace hps := hps.less (fun x hx => (.tail _ hx))
    exact hK9 (i + 1) ⟨(by omega), (fun j p hj hp => by rcases Nat.lt_or_ge j i with h_ | h_; exact hall j p h_ hp; (obtain rfl : j = i := by omega); rw [e17] at hp; cases hp; unfold okP; simp_all), hB, hL, hgv, hps, k3⟩ (by omega) (by repeat first | exact trivial | exact And.intro rfl trivial | refine And.intro rfl ?_ | refine And.intro (congrArg (fun z : Int => some (Value.int .i64 z)) (by omega)) ?_)
 ·
  replace c13 := dF c13
  refine WC.exit ?_
  refine hK7 (Sq fun K48 hK48 => (Rg (Pu rfl ?_)))
  have hps1 : ∀ p ∈ ps, p.2.nv.oneCell' = true ∧ p.2.iv.oneCell' = true := fun p hp => (fun h : RdT (n + 1) _ _ p.2 => ⟨h.1.one, h.2.1.one⟩) (hps p.2 (List.mem_map.2 ⟨p, hp, rfl⟩))
  have hone : ∀ r ∈ ps.map encP, ∀ u ∈ r, u.oneCell' = true := fun r hr => by obtain ⟨p, hp, rfl⟩ := List.mem_map.1 hr; exact oc_cons rfl (hps p.2 (List.mem_map.2 ⟨p, hp, rfl⟩)).oc
  refine Ge (dx_cv rfl Try.func54 rfl rfl rfl (cloneSP_v _ _ W10 [] (LL.nil _) (RdF.less (L' := []) hgv (fun x hx => by cases hx)) hone (by rw [List.length_map]; omega))) rfl rfl ?_
  rintro u3 W3_ ⟨hN3, b3_⟩
  refine Pu rfl (Ni (hK48 (Sq fun K49 hK49 => (Rg (Pu rfl ?_)))))
  refine Ge (dx_callA rfl Try.func55 rfl rfl rfl (sortQ_v hps1 hN3 b3_.size hlen)) rfl rfl ?_
  rintro _ W4_ ⟨⟨ss, hsp, hsw, hN4⟩, b4_⟩
  have b5_ := b3_.trans b4_
  have hss := hN4.rdL hL (Nat.le_refl _)
  replace hps := hps.below b5_
  replace k3 := k3.below b5_
  replace hB := below_then hB b5_
  replace hL := LL.below hL b5_
  have hpt : RdTs (n + 1) (w.heap.size :: L) W4_ (ss.map Prod.snd) := fun c hc => hps c ((hsp.map Prod.snd).mem_iff.1 hc)
  have hsl : ss.length ≤ 1000000 := by rw [hsp.length_eq]; exact hlen
  have hoks := ok_perm hsp (fun j p h => hall j p (by omega))
  have hmp := mk_perm hsp
  refine Ni (hK49 (Sq fun K50 hK50 => (Rg (Va (dx_build rfl rfl (built_of_O (cs := [.int .i64 6, .int .i64 0, .string ⟨#[]⟩, .slice none 0 0, .slice none 0 0]) (by kernel_rfl) (oc_cons rfl oc_nil))) rfl rfl ?_))))
  refine Ge (dx_alloc rfl ty_zero_26 rfl) rfl rfl ?_
  rintro _ W51 ⟨rfl, k52, b53, z54⟩
  have n55 : w.heap.size ≠ W4_.heap.size := Nat.ne_of_lt k3.lt
  have l56 := hB.size
  replace hss := hss.more b53 (Nat.le_refl _)
  replace hpt := hpt.more b53 (Nat.le_refl _)
  replace k3 := k3.below b53
  replace hB := below_then hB b53
  replace hL := LL.more hL z54
  refine WL.do (dx_store (cs' := [.int .i64 6, .int .i64 0, .string ⟨#[]⟩, .slice none 0 0, .slice none 0 0]) (vs := [.int .i64 6, .int .i64 0, .string ⟨#[]⟩, .slice none 0 0, .slice none 0 0]) rfl ty_size_26_5 rfl rfl rfl (oc_cons rfl (oc_cons rfl (oc_cons rfl (oc_cons rfl (oc_cons rfl oc_nil))))) k52 rfl (Nat.le_of_ble_eq_true rfl) rfl) rfl ?_
  rintro _ W57 ⟨k59, o58⟩
  replace k3 := k3.other o58 n55
  clear k52
  replace hss := hss.only o58 (.head _)
  replace hpt := hpt.only o58 (.head _)
  replace hB := o58.below hB l56
  replace hL := LL.only hL o58
  refine Ni (hK50 (Sq fun K60 hK60 => (Sq fun K61 hK61 => (Rg (Pu rfl (Va (dx_lenFM rfl ty_slice_40 rfl hss) rfl rfl (Pu rfl ?_)))))))
  refine Ni (hK61 (WC.block ?_))
  obtain ⟨b0, hb0⟩ : ∃ b, b = W57.heap.size := ⟨_, rfl⟩
  have hb0L : ∀ x ∈ (W4_.heap.size :: w.heap.size :: L), x < b0 := by rw [hb0]; exact hL
  have hb0w : w.heap.size ≤ b0 := by rw [hb0]; exact hB.size
  have hss6 := hss
  have hpt6 := hpt
  have hag : AgL W57 (W4_.heap.size :: w.heap.size :: L) (W4_.heap.size :: w.heap.size :: L) W57 := ⟨fun _ h _ => h, ⟨Nat.le_refl _, fun _ _ _ => rfl⟩⟩
  have hm : MembI (n + 1) b0 (W4_.heap.size :: w.heap.size :: L) (.slice none 0 0) (nmA ss 0) (.slice none 0 0) (itA ss 0) W57 := ⟨hb0L, .inl ⟨rfl, rfl, by first | rfl | simp, by first | rfl | simp⟩⟩
  refine WC.loop3 (fun (i : Nat) (nv : Value) (iv : Value) => [(0, gv), (2, .pointer (some ⟨w.heap.size, 0, none⟩)), (6, u3), (7, .pointer (some ⟨W4_.heap.size, 0, none⟩)), (34, u3), (35, .int .i64 (ss.length : Int)), (36, .int .i64 (i : Int))]) (fun (i : Nat) (nv : Value) (iv : Value) W => i ≤ ss.length ∧ Rises (nmA ss i) ∧ Below w.heap.size w W ∧ LL (W4_.heap.size :: w.heap.size :: L) W ∧ RdF 6 (W4_.heap.size :: w.heap.size :: L) W u3 (ss.map encP) ∧ RdTs (n + 1) (W4_.heap.size :: w.heap.size :: L) W (ss.map Prod.snd) ∧ AgL W57 (W4_.heap.size :: w.heap.size :: L) (W4_.heap.size :: w.heap.size :: L) W ∧ MembI (n + 1) b0 (W4_.heap.size :: w.heap.size :: L) nv (nmA ss i) iv (itA ss i) W ∧ Blk W w.heap.size [.int .i64 0, .int .i64 0, .string ⟨#[]⟩, .slice none 0 0, .slice none 0 0] ∧ Blk W W4_.heap.size [.int .i64 6, .int .i64 0, .string ⟨#[]⟩, nv, iv]) (fun (i : Nat) (nv : Value) (iv : Value) => ss.length - i) 0 (.slice none 0 0) (.slice none 0 0) (by repeat first | exact trivial | exact And.intro rfl trivial | refine And.intro rfl ?_ | refine And.intro (congrArg (fun z : Int => some (Value.int .i64 z)) (by omega)) ?_) ⟨Nat.zero_le _, (by unfold nmA; exact List.Pairwise.nil), hB, hL, hss, hpt, hag, hm, k3, k59⟩ ?_
  clear hss hpt hag hm k3 k59 hB hL
  rintro K62 i nv iv W63 ⟨hi, hr, hB, hL, hss, hpt, hag, hm, k3, k59⟩ hK62
  refine Sq fun K64 hK64 => (Rg (Va (dx_lss rfl rfl rfl) rfl rfl (Ni (hK64 (Sq fun K65 hK65 => ?_)))))
  refine WC.cond rfl (fun c66 => ?_) (fun c66 => ?_)
  ·
   replace c66 := dT c66
   refine WC.skip (hK65 (Sq fun K67 hK67 => (WC.block (Sq fun K68 hK68 => ?_))))
   obtain ⟨-, hm⟩ := hm
   have hlN := And.intro (nmA_len ss i) (itA_len ss i)
   rcases hm with ⟨rfl, rfl, hns0, hts0⟩ | ⟨Bn, Bi, hni, hbn, hbi, hOn, hOi, hts⟩
   ·
    refine Rg (Pu rfl ?_)
    obtain ⟨r69, e70⟩ : ∃ x, ss[i]? = some x := ⟨_, List.getElem?_eq_getElem (by omega)⟩
    refine Ge (dx_idxF i rfl ty_slice_40 rfl rfl hss (by omega) (at_mapX e70)) rfl rfl ?_
    rintro u71 _ ⟨rfl, p72⟩
    refine Va (dx_loadPN rfl ty_agg_43_6 rfl p72 rfl) rfl rfl ?_
    refine Ge (dx_alloc rfl ty_zero_43 rfl) rfl rfl ?_
    rintro _ W73 ⟨rfl, k74, b75, z76⟩
    have n77 : w.heap.size ≠ W63.heap.size := Nat.ne_of_lt k3.lt
    have n78 : W4_.heap.size ≠ W63.heap.size := Nat.ne_of_lt k59.lt
    have l79 := hB.size
    replace hss := hss.more b75 (Nat.le_refl _)
    replace hpt := hpt.more b75 (Nat.le_refl _)
    replace hag := hag.more b75 (Nat.le_refl _)
    replace k3 := k3.below b75
    replace k59 := k59.below b75
    replace hB := below_then hB b75
    replace hL := LL.more hL z76
    refine Pu rfl ?_
    refine WL.do (dx_store (cs' := [.string r69.1, .int .i64 r69.2.kind, .int .i64 r69.2.num, .string r69.2.text, r69.2.nv, r69.2.iv]) (vs := [.string r69.1, .int .i64 r69.2.kind, .int .i64 r69.2.num, .string r69.2.text, r69.2.nv, r69.2.iv]) rfl ty_size_43_6 rfl rfl rfl (oc_cons rfl (oc_cons rfl (oc_cons rfl (oc_cons rfl (oc_cons ((hpt r69.2 (List.mem_map.2 ⟨r69, List.mem_of_getElem? e70, rfl⟩)).1).one (oc_cons ((hpt r69.2 (List.mem_map.2 ⟨r69, List.mem_of_getElem? e70, rfl⟩)).2.1).one oc_nil)))))) k74 rfl (Nat.le_of_ble_eq_true rfl) rfl) rfl ?_
    rintro _ W80 ⟨k82, o81⟩
    replace k3 := k3.other o81 n77
    replace k59 := k59.other o81 n78
    clear k74
    replace hss := hss.only o81 (.head _)
    replace hpt := hpt.only o81 (.head _)
    replace hag := hag.only o81 (.head _)
    replace hB := o81.below hB l79
    replace hL := LL.only hL o81
    refine Ni (hK68 (Sq fun K83 hK83 => (Sq fun K84 hK84 => ?_)))
    obtain ⟨b85, hb85⟩ : ∃ b, b = (decide (0 < (i : Int))) := ⟨_, rfl⟩
    obtain ⟨r86, e87⟩ : ∃ x, ss[(i - 1)]? = some x := ⟨_, List.getElem?_eq_getElem (by omega)⟩
    refine WC.drawM 13 [(some 41, .is (.int .i64 (i : Int))), (some 42, .is (.bool (decide (0 < (i : Int))))), (some 43, .is (.bool b85)), (some 44, .is (bif b85 then u3 else undef)), (some 45, .is (bif b85 then .int .i64 (i : Int) else undef)), (some 46, .is (bif b85 then .int .i64 ((i : Int) - 1) else undef)), (some 47, .by fun u W => b85 = true → PtR (W63.heap.size :: W4_.heap.size :: w.heap.size :: L) W u (encP r86)), (some 48, .by fun u W => b85 = true → PtR (W63.heap.size :: W4_.heap.size :: w.heap.size :: L) W u [.string r86.1]), (some 49, .is (bif b85 then .string r86.1 else undef)), (some 50, .is (bif b85 then .pointer (some ⟨W63.heap.size, 0, none⟩) else undef)), (some 51, .is (bif b85 then .string r69.1 else undef)), (some 52, .is (bif b85 then .bool (decide (r86.1 = r69.1)) else undef)), (some 53, .is (.bool (b85 && (decide (r86.1 = r69.1)))))] [[], [0], [1], [2], [2], [4, 2], [3, 5, 2], [6, 2], [7, 2], [2], [9, 2], [8, 10, 2], [2, 11]] (by kernel_rfl) (by kernel_rfl) (by kernel_rfl) (by kernel_rfl) (by kernel_rfl) (by kernel_rfl) (by kernel_rfl) ⟨fun _ _ _ hb h g => (h g).below hb, fun _ _ _ hb h g => (h g).below hb, trivial⟩ ?_ ?_
    ·
     refine Dc (fun Wd hd => ?_) ?_
     ·
      exact Dd (dx_move rfl rfl) rfl
     refine Dc (fun Wd hd => ?_) ?_
     ·
      exact Dd (dx_gtr rfl rfl rfl) rfl
     refine Dc (fun Wd hd => ?_) ?_
     ·
      exact DV.dr (dx_move rfl rfl) ⟨Below.refl _ _, by rw [hb85]; rfl⟩
     refine Dc (fun Wd hd => ?_) ?_
     ·
      cases b85
      ·
       exact Dd (dv_off rfl) rfl
      ·
       exact Dd (dx_move rfl rfl) rfl
     refine Dc (fun Wd hd => ?_) ?_
     ·
      cases b85
      ·
       exact Dd (dv_off rfl) rfl
      ·
       exact Dd (dx_move rfl rfl) rfl
     refine Dc (fun Wd hd => ?_) ?_
     ·
      cases b85
      ·
       exact Dd (dv_off rfl) rfl
      ·
       exact Dd (dx_sub (r := (i : Int) - 1) rfl rfl rfl (wrap64_id (by omega))) rfl
     refine Dc (fun Wd hd => ?_) ?_
     ·
      cases b85
      ·
       exact DV.dr (dv_off rfl) ⟨Below.refl _ _, fun h => by cases h⟩
      ·
       have hss := hss.below hd
       exact (dx_idxF (i - 1) rfl ty_slice_40 rfl rfl hss (by first | omega | (have hq_ := of_decide_eq_true hb85.symm; omega)) (at_mapX e87)).mono (fun v W' h => ⟨by rw [← h.1]; exact Below.refl _ _, fun _ => by rw [← h.1]; exact h.2⟩)
     refine Dc (fun Wd hd => ?_) ?_
     ·
      intro u13_6 p13_6
      cases b85
      ·
       exact DV.dr (dv_off rfl) ⟨Below.refl _ _, fun h => by cases h⟩
      ·
       replace p13_6 := p13_6 rfl
       exact (dx_fldP 1 rfl ty_fld_43_0_0 rfl p13_6 (cs' := [.string r86.1]) rfl (Nat.succ_pos _)).mono (fun v W' h => ⟨by rw [← h.1]; exact Below.refl _ _, fun _ => by rw [← h.1]; exact h.2⟩)
     refine Dc (fun Wd hd => ?_) ?_
     ·
      intro u13_7 p13_7
      cases b85
      ·
       exact Dd (dv_off rfl) rfl
      ·
       replace p13_7 := p13_7 rfl
       exact Dd (dx_loadP rfl ty_one_9 rfl p13_7) rfl
     refine Dc (fun Wd hd => ?_) ?_
     ·
      cases b85
      ·
       exact Dd (dv_off rfl) rfl
      ·
       exact Dd (dx_fld (o1 := 0) rfl ty_fld_43_0_0 rfl rfl) rfl
     refine Dc (fun Wd hd => ?_) ?_
     ·
      cases b85
      ·
       exact Dd (dv_off rfl) rfl
      ·
       have k82 := k82.below hd
       exact Dd (dx_load rfl ty_one_9 rfl (k82.cell (k := 0) rfl)) rfl
     refine Dc (fun Wd hd => ?_) ?_
     ·
      cases b85
      ·
       exact Dd (dv_off rfl) rfl
      ·
       exact Dd (dx_eqlT rfl rfl rfl) rfl
     refine Dc (fun Wd hd => ?_) ?_
     ·
      cases b85
      ·
       exact Dd (dx_pick rfl rfl rfl) rfl
      ·
       exact Dd (dx_pick rfl rfl rfl) rfl
     exact trivial
    ·
     intro W88 b89
     intro _ _
     intro _ _
     replace hss := hss.below b89
     replace hpt := hpt.below b89
     replace hag := hag.below b89
     replace k3 := k3.below b89
     replace k59 := k59.below b89
     replace k82 := k82.below b89
     replace hB := below_then hB b89
     replace hL := LL.below hL b89
     refine Ni (hK84 ?_)
     refine WC.cond rfl (fun c90 => ?_) (fun c90 => ?_)
     ·
      obtain ⟨g91, g92⟩ := band_t c90
      replace g92 := dT g92
      refine Sq fun K93 hK93 => (Rg (Va (dx_build rfl rfl (built_of_O (cs := zV) (by kernel_rfl) oc_nil)) rfl rfl ?_))
      refine WL.do (dx_store (cs' := zV) (vs := zV) rfl ty_size_26_5 rfl rfl rfl (oc_cons rfl (oc_cons rfl (oc_cons rfl (oc_cons rfl (oc_cons rfl oc_nil))))) k3 rfl (Nat.le_of_ble_eq_true rfl) rfl) rfl ?_
      rintro _ W94 ⟨k96, o95⟩
      clear k3
      replace hB := o95.below hB l6
      refine Pu rfl (Ni (hK93 ?_))
      exact WC.ret fun a_ ha_ => hQ (cv_ret2 rfl (.agg rfl ty_agg_26_5 k96.range rfl) (.tmp rfl) (.inr ⟨6, rfl, by decide, hmp.trans (make_6 hoks (dup_not (by simp_all) e70 e87 (by simp_all)))⟩) hB ha_)
     ·
      refine WC.skip (hK83 (Sq fun K97 hK97 => ?_))
      have hne : 0 < i → ∀ q, ss[i - 1]? = some q → q.1 ≠ r69.1 := fun h0_ q hq e_ => by rw [e87] at hq; cases hq; simp_all
      refine Rg (Va (dx_fld (o1 := 3) rfl ty_fld_26_3_3 rfl rfl) rfl rfl (Va (dx_load rfl ty_one_23 rfl (k59.cell (k := 3) rfl)) rfl rfl (Va (dx_fld (o1 := 0) rfl ty_fld_43_0_0 rfl rfl) rfl rfl (Va (dx_load rfl ty_one_9 rfl (k82.cell (k := 0) rfl)) rfl rfl ?_))))
      refine Ge (dx_lit1 (r := [.string r69.1]) rfl ty_ap_23 (by decide) (by decide) rfl rfl rfl) rfl rfl ?_
      rintro u102 W98 ⟨k99, b100, z101⟩
      have l106 := hB.size
      replace hss := hss.more b100 (Nat.le_refl _)
      replace hpt := hpt.more b100 (Nat.le_refl _)
      replace hag := hag.more b100 (Nat.le_refl _)
      replace k3 := k3.below b100
      replace k59 := k59.below b100
      replace k82 := k82.below b100
      replace hB := below_then hB b100
      replace hL := LL.more hL z101
      refine Ge (dx_apF (rs := []) (news := [eS r69.1]) rfl ty_ap_23 rfl rfl (RdF.nil (L := []) (by decide)) (k99.rd (L := []) (by simp)) (by simp) (by simp [maxLen]) (by simp)) rfl rfl ?_
      rintro u107 W108 ⟨k109, b110, z111⟩
      have q114 := hag.2.1
      have l115 : b0 ≤ W98.heap.size := by omega
      have n117 : W4_.heap.size ≠ W98.heap.size := Nat.ne_of_lt k59.lt
      have l120 := hB.size
      replace hss := hss.more b110 (Nat.le_refl _)
      replace hpt := hpt.more b110 (Nat.le_refl _)
      replace hag := hag.more b110 (Nat.le_refl _)
      replace k3 := k3.below b110
      replace k59 := k59.below b110
      replace k82 := k82.below b110
      replace hB := below_then hB b110
      replace hL := LL.more hL z111
      refine Va (dx_fld (o1 := 3) rfl ty_fld_26_3_3 rfl rfl) rfl rfl ?_
      refine WL.do (dx_store (cs' := [.int .i64 6, .int .i64 0, .string ⟨#[]⟩, u107, .slice none 0 0]) (vs := [u107]) rfl ty_size_23_1 rfl rfl (oc_one k109.one) (oc_cons k109.one oc_nil) k59 rfl (Nat.le_of_ble_eq_true rfl) rfl) rfl ?_
      rintro _ W121 ⟨k123, o122⟩
      replace k3 := k3.other o122 n55
      replace k82 := k82.other o122 n78.symm
      replace k109 := k109.other o122 n117.symm
      clear k59
      replace hss := hss.only o122 (.tail _ (.tail _ (.tail _ (.head _))))
      replace hpt := hpt.only o122 (.tail _ (.tail _ (.tail _ (.head _))))
      replace hag := hag.only o122 (.tail _ (.tail _ (.tail _ (.head _))))
      replace hB := o122.below hB l56
      replace hL := LL.only hL o122
      refine Ni (hK97 (Rg (Va (dx_fld (o1 := 4) rfl ty_fld_26_4_4 rfl rfl) rfl rfl (Va (dx_load rfl ty_one_24 rfl (k123.cell (k := 4) rfl)) rfl rfl (Va (dx_fld (o1 := 1) rfl ty_fld_43_1_1 rfl rfl) rfl rfl (Va (dx_loadN (cs := [.int .i64 r69.2.kind, .int .i64 r69.2.num, .string r69.2.text, r69.2.nv, r69.2.iv]) rfl ty_agg_26_5 rfl (k82.part 1 5) rfl) rfl rfl ?_))))))
      refine Ge (dx_lit1 (r := [.int .i64 r69.2.kind, .int .i64 r69.2.num, .string r69.2.text, r69.2.nv, r69.2.iv]) rfl ty_ap_24 (by decide) (by decide) rfl rfl rfl) rfl rfl ?_
      rintro u128 W124 ⟨k125, b126, z127⟩
      have l134 := hB.size
      replace hss := hss.more b126 (Nat.le_refl _)
      replace hpt := hpt.more b126 (Nat.le_refl _)
      replace hag := hag.more b126 (Nat.le_refl _)
      replace k3 := k3.below b126
      replace k123 := k123.below b126
      replace k109 := k109.below b126
      replace hB := below_then hB b126
      replace hL := LL.more hL z127
      refine Ge (dx_apF (rs := []) (news := [encT r69.2]) rfl ty_ap_24 rfl rfl (RdF.nil (L := []) (by decide)) (k125.rd (L := []) (by simp)) (by simp) (by simp [maxLen]) (by simp)) rfl rfl ?_
      rintro u135 W136 ⟨k137, b138, z139⟩
      have q142 := hag.2.1
      have l143 : b0 ≤ W124.heap.size := by omega
      have n145 : W4_.heap.size ≠ W124.heap.size := Nat.ne_of_lt k123.lt
      have n148 : W98.heap.size ≠ W124.heap.size := Nat.ne_of_lt k109.lt
      have l150 := hB.size
      replace hss := hss.more b138 (Nat.le_refl _)
      replace hpt := hpt.more b138 (Nat.le_refl _)
      replace hag := hag.more b138 (Nat.le_refl _)
      replace k3 := k3.below b138
      replace k123 := k123.below b138
      replace k109 := k109.below b138
      replace hB := below_then hB b138
      replace hL := LL.more hL z139
      refine Va (dx_fld (o1 := 4) rfl ty_fld_26_4_4 rfl rfl) rfl rfl ?_
      refine WL.do (dx_store (cs' := [.int .i64 6, .int .i64 0, .string ⟨#[]⟩, u107, u135]) (vs := [u135]) rfl ty_size_24_1 rfl rfl (oc_one k137.one) (oc_cons k137.one oc_nil) k123 rfl (Nat.le_of_ble_eq_true rfl) rfl) rfl ?_
      rintro _ W151 ⟨k153, o152⟩
      replace k3 := k3.other o152 n55
      replace k109 := k109.other o152 n117.symm
      replace k137 := k137.other o152 n145.symm
      clear k123
      replace hss := hss.only o152 (.tail _ (.tail _ (.tail _ (.tail _ (.tail _ (.head _))))))
      replace hpt := hpt.only o152 (.tail _ (.tail _ (.tail _ (.tail _ (.tail _ (.head _))))))
      replace hag := hag.only o152 (.tail _ (.tail _ (.tail _ (.tail _ (.tail _ (.head _))))))
      replace hB := o152.below hB l56
      replace hL := LL.only hL o152
      refine Ni (hK67 (Rg (Va (dx_add (r := (i : Int) + 1) rfl rfl rfl (wrap64_id (by omega))) rfl rfl (Pu rfl (Ni ?_)))))
      have eN : [r69.1] = (nmA ss (i + 1)) := by rw [nmA_add e70]; rw [hns0]; rfl
      have eT : [r69.2] = (itA ss (i + 1)) := by rw [itA_add e70]; rw [hts0]; rfl
      have hts2 : RdTs (n + 1) (W98.heap.size :: W124.heap.size :: W4_.heap.size :: w.heap.size :: L) W151 [r69.2] := fun c hc_ => by
       simp only [List.mem_append, List.mem_singleton, or_assoc] at hc_
       have h_ := hc_
       (rw [h_]; exact (hpt r69.2 (List.mem_map.2 ⟨r69, List.mem_of_getElem? e70, rfl⟩)).less (fun x hx => by simp only [List.mem_cons] at hx ⊢; rcases hx with h_ | h_ | h_ <;> simp [h_]))
      have hm2 : MembI (n + 1) b0 (W4_.heap.size :: w.heap.size :: L) u107 (nmA ss (i + 1)) u135 (itA ss (i + 1)) W151 := ⟨hb0L, .inr ⟨W98.heap.size, W124.heap.size, n148, by omega, by omega, (by rw [← eN]; exact k109), (by rw [← eT]; exact k137), (by rw [← eT]; exact hts2)⟩⟩
      have hL_ := hL.less (fun x hx => (.tail _ (.tail _ (.tail _ (.tail _ (.tail _ hx))))))
      replace hag : AgL W57 (W4_.heap.size :: w.heap.size :: L) (W4_.heap.size :: w.heap.size :: L) W151 := ⟨fun _ h _ => h, hag.2⟩
      replace hss := hss6.agree hag.2
      replace hpt : RdTs (n + 1) (W4_.heap.size :: w.heap.size :: L) W151 (ss.map Prod.snd) := fun c hc_ => (hpt6 c hc_).agree hag.2
      replace hL := hL_
      exact hK62 (i + 1) u107 u135 ⟨(by omega), (rises_add hsw hr e70 hne), hB, hL, hss, hpt, hag, hm2, k3, k153⟩ (by omega) (by repeat first | exact trivial | exact And.intro rfl trivial | refine And.intro rfl ?_ | refine And.intro (congrArg (fun z : Int => some (Value.int .i64 z)) (by omega)) ?_)
   ·
    have n154 : Bn ≠ w.heap.size := by have := hb0L (w.heap.size) (.tail _ (.head _)); omega
    have n155 : Bi ≠ w.heap.size := by have := hb0L (w.heap.size) (.tail _ (.head _)); omega
    have n156 : Bn ≠ W4_.heap.size := by have := hb0L (W4_.heap.size) (.head _); omega
    have n157 : Bi ≠ W4_.heap.size := by have := hb0L (W4_.heap.size) (.head _); omega
    have lbn : w.heap.size ≤ Bn := by omega
    have lbi : w.heap.size ≤ Bi := by omega
    replace hag := (hag.add (B := Bi) (by omega)).add (B := Bn) (by omega)
    replace hL := LL.cons (LL.cons hL hOi.lt) hOn.lt
    replace hss := hag.rd hss6
    replace hpt : RdTs (n + 1) (Bn :: Bi :: W4_.heap.size :: w.heap.size :: L) W63 (ss.map Prod.snd) := fun c hc_ => hag.rt (hpt6 c hc_)
    refine Rg (Pu rfl ?_)
    obtain ⟨r158, e159⟩ : ∃ x, ss[i]? = some x := ⟨_, List.getElem?_eq_getElem (by omega)⟩
    refine Ge (dx_idxF i rfl ty_slice_40 rfl rfl hss (by omega) (at_mapX e159)) rfl rfl ?_
    rintro u160 _ ⟨rfl, p161⟩
    refine Va (dx_loadPN rfl ty_agg_43_6 rfl p161 rfl) rfl rfl ?_
    refine Ge (dx_alloc rfl ty_zero_43 rfl) rfl rfl ?_
    rintro _ W162 ⟨rfl, k163, b164, z165⟩
    have n166 : w.heap.size ≠ W63.heap.size := Nat.ne_of_lt k3.lt
    have n167 : W4_.heap.size ≠ W63.heap.size := Nat.ne_of_lt k59.lt
    have n168 : Bn ≠ W63.heap.size := Nat.ne_of_lt hOn.lt
    have n169 : Bi ≠ W63.heap.size := Nat.ne_of_lt hOi.lt
    have l170 := hB.size
    replace hss := hss.more b164 (Nat.le_refl _)
    replace hpt := hpt.more b164 (Nat.le_refl _)
    replace hag := hag.more b164 (Nat.le_refl _)
    replace hts := hts.more b164 (Nat.le_refl _)
    replace k3 := k3.below b164
    replace k59 := k59.below b164
    replace hOn := hOn.below b164
    replace hOi := hOi.below b164
    replace hB := below_then hB b164
    replace hL := LL.more hL z165
    refine Pu rfl ?_
    refine WL.do (dx_store (cs' := [.string r158.1, .int .i64 r158.2.kind, .int .i64 r158.2.num, .string r158.2.text, r158.2.nv, r158.2.iv]) (vs := [.string r158.1, .int .i64 r158.2.kind, .int .i64 r158.2.num, .string r158.2.text, r158.2.nv, r158.2.iv]) rfl ty_size_43_6 rfl rfl rfl (oc_cons rfl (oc_cons rfl (oc_cons rfl (oc_cons rfl (oc_cons ((hpt r158.2 (List.mem_map.2 ⟨r158, List.mem_of_getElem? e159, rfl⟩)).1).one (oc_cons ((hpt r158.2 (List.mem_map.2 ⟨r158, List.mem_of_getElem? e159, rfl⟩)).2.1).one oc_nil)))))) k163 rfl (Nat.le_of_ble_eq_true rfl) rfl) rfl ?_
    rintro _ W171 ⟨k173, o172⟩
    replace k3 := k3.other o172 n166
    replace k59 := k59.other o172 n167
    replace hOn := hOn.other o172 n168
    replace hOi := hOi.other o172 n169
    clear k163
    replace hss := hss.only o172 (.head _)
    replace hpt := hpt.only o172 (.head _)
    replace hag := hag.only o172 (.head _)
    replace hts := hts.only o172 (.head _)
    replace hB := o172.below hB l170
    replace hL := LL.only hL o172
    refine Ni (hK68 (Sq fun K174 hK174 => (Sq fun K175 hK175 => ?_)))
    obtain ⟨b176, hb176⟩ : ∃ b, b = (decide (0 < (i : Int))) := ⟨_, rfl⟩
    obtain ⟨r177, e178⟩ : ∃ x, ss[(i - 1)]? = some x := ⟨_, List.getElem?_eq_getElem (by omega)⟩
    refine WC.drawM 13 [(some 41, .is (.int .i64 (i : Int))), (some 42, .is (.bool (decide (0 < (i : Int))))), (some 43, .is (.bool b176)), (some 44, .is (bif b176 then u3 else undef)), (some 45, .is (bif b176 then .int .i64 (i : Int) else undef)), (some 46, .is (bif b176 then .int .i64 ((i : Int) - 1) else undef)), (some 47, .by fun u W => b176 = true → PtR (W63.heap.size :: Bn :: Bi :: W4_.heap.size :: w.heap.size :: L) W u (encP r177)), (some 48, .by fun u W => b176 = true → PtR (W63.heap.size :: Bn :: Bi :: W4_.heap.size :: w.heap.size :: L) W u [.string r177.1]), (some 49, .is (bif b176 then .string r177.1 else undef)), (some 50, .is (bif b176 then .pointer (some ⟨W63.heap.size, 0, none⟩) else undef)), (some 51, .is (bif b176 then .string r158.1 else undef)), (some 52, .is (bif b176 then .bool (decide (r177.1 = r158.1)) else undef)), (some 53, .is (.bool (b176 && (decide (r177.1 = r158.1)))))] [[], [0], [1], [2], [2], [4, 2], [3, 5, 2], [6, 2], [7, 2], [2], [9, 2], [8, 10, 2], [2, 11]] (by kernel_rfl) (by kernel_rfl) (by kernel_rfl) (by kernel_rfl) (by kernel_rfl) (by kernel_rfl) (by kernel_rfl) ⟨fun _ _ _ hb h g => (h g).below hb, fun _ _ _ hb h g => (h g).below hb, trivial⟩ ?_ ?_
    ·
     refine Dc (fun Wd hd => ?_) ?_
     ·
      exact Dd (dx_move rfl rfl) rfl
     refine Dc (fun Wd hd => ?_) ?_
     ·
      exact Dd (dx_gtr rfl rfl rfl) rfl
     refine Dc (fun Wd hd => ?_) ?_
     ·
      exact DV.dr (dx_move rfl rfl) ⟨Below.refl _ _, by rw [hb176]; rfl⟩
     refine Dc (fun Wd hd => ?_) ?_
     ·
      cases b176
      ·
       exact Dd (dv_off rfl) rfl
      ·
       exact Dd (dx_move rfl rfl) rfl
     refine Dc (fun Wd hd => ?_) ?_
     ·
      cases b176
      ·
       exact Dd (dv_off rfl) rfl
      ·
       exact Dd (dx_move rfl rfl) rfl
     refine Dc (fun Wd hd => ?_) ?_
     ·
      cases b176
      ·
       exact Dd (dv_off rfl) rfl
      ·
       exact Dd (dx_sub (r := (i : Int) - 1) rfl rfl rfl (wrap64_id (by omega))) rfl
     refine Dc (fun Wd hd => ?_) ?_
     ·
      cases b176
      ·
       exact DV.dr (dv_off rfl) ⟨Below.refl _ _, fun h => by cases h⟩
      ·
       have hss := hss.below hd
       exact (dx_idxF (i - 1) rfl ty_slice_40 rfl rfl hss (by first | omega | (have hq_ := of_decide_eq_true hb176.symm; omega)) (at_mapX e178)).mono (fun v W' h => ⟨by rw [← h.1]; exact Below.refl _ _, fun _ => by rw [← h.1]; exact h.2⟩)
     refine Dc (fun Wd hd => ?_) ?_
     ·
      intro u13_6 p13_6
      cases b176
      ·
       exact DV.dr (dv_off rfl) ⟨Below.refl _ _, fun h => by cases h⟩
      ·
       replace p13_6 := p13_6 rfl
       exact (dx_fldP 1 rfl ty_fld_43_0_0 rfl p13_6 (cs' := [.string r177.1]) rfl (Nat.succ_pos _)).mono (fun v W' h => ⟨by rw [← h.1]; exact Below.refl _ _, fun _ => by rw [← h.1]; exact h.2⟩)
     refine Dc (fun Wd hd => ?_) ?_
     ·
      intro u13_7 p13_7
      cases b176
      ·
       exact Dd (dv_off rfl) rfl
      ·
       replace p13_7 := p13_7 rfl
       exact Dd (dx_loadP rfl ty_one_9 rfl p13_7) rfl
     refine Dc (fun Wd hd => ?_) ?_
     ·
      cases b176
      ·
       exact Dd (dv_off rfl) rfl
      ·
       exact Dd (dx_fld (o1 := 0) rfl ty_fld_43_0_0 rfl rfl) rfl
     refine Dc (fun Wd hd => ?_) ?_
     ·
      cases b176
      ·
       exact Dd (dv_off rfl) rfl
      ·
       have k173 := k173.below hd
       exact Dd (dx_load rfl ty_one_9 rfl (k173.cell (k := 0) rfl)) rfl
     refine Dc (fun Wd hd => ?_) ?_
     ·
      cases b176
      ·
       exact Dd (dv_off rfl) rfl
      ·
       exact Dd (dx_eqlT rfl rfl rfl) rfl
     refine Dc (fun Wd hd => ?_) ?_
     ·
      cases b176
      ·
       exact Dd (dx_pick rfl rfl rfl) rfl
      ·
       exact Dd (dx_pick rfl rfl rfl) rfl
     exact trivial
    ·
     intro W179 b180
     intro _ _
     intro _ _
     replace hss := hss.below b180
     replace hpt := hpt.below b180
     replace hag := hag.below b180
     replace hts := hts.below b180
     replace k3 := k3.below b180
     replace k59 := k59.below b180
     replace hOn := hOn.below b180
     replace hOi := hOi.below b180
     replace k173 := k173.below b180
     replace hB := below_then hB b180
     replace hL := LL.below hL b180
     refine Ni (hK175 ?_)
     refine WC.cond rfl (fun c181 => ?_) (fun c181 => ?_)
     ·
      obtain ⟨g182, g183⟩ := band_t c181
      replace g183 := dT g183
      refine Sq fun K184 hK184 => (Rg (Va (dx_build rfl rfl (built_of_O (cs := zV) (by kernel_rfl) oc_nil)) rfl rfl ?_))
      refine WL.do (dx_store (cs' := zV) (vs := zV) rfl ty_size_26_5 rfl rfl rfl (oc_cons rfl (oc_cons rfl (oc_cons rfl (oc_cons rfl (oc_cons rfl oc_nil))))) k3 rfl (Nat.le_of_ble_eq_true rfl) rfl) rfl ?_
      rintro _ W185 ⟨k187, o186⟩
      clear k3
      replace hB := o186.below hB l6
      refine Pu rfl (Ni (hK184 ?_))
      exact WC.ret fun a_ ha_ => hQ (cv_ret2 rfl (.agg rfl ty_agg_26_5 k187.range rfl) (.tmp rfl) (.inr ⟨6, rfl, by decide, hmp.trans (make_6 hoks (dup_not (by simp_all) e159 e178 (by simp_all)))⟩) hB ha_)
     ·
      refine WC.skip (hK174 (Sq fun K188 hK188 => ?_))
      have hne : 0 < i → ∀ q, ss[i - 1]? = some q → q.1 ≠ r158.1 := fun h0_ q hq e_ => by rw [e178] at hq; cases hq; simp_all
      refine Rg (Va (dx_fld (o1 := 3) rfl ty_fld_26_3_3 rfl rfl) rfl rfl (Va (dx_load rfl ty_one_23 rfl (k59.cell (k := 3) rfl)) rfl rfl (Va (dx_fld (o1 := 0) rfl ty_fld_43_0_0 rfl rfl) rfl rfl (Va (dx_load rfl ty_one_9 rfl (k173.cell (k := 0) rfl)) rfl rfl ?_))))
      refine Ge (dx_lit1 (r := [.string r158.1]) rfl ty_ap_23 (by decide) (by decide) rfl rfl rfl) rfl rfl ?_
      rintro u193 W189 ⟨k190, b191, z192⟩
      have l199 := hB.size
      replace hss := hss.more b191 (Nat.le_refl _)
      replace hpt := hpt.more b191 (Nat.le_refl _)
      replace hag := hag.more b191 (Nat.le_refl _)
      replace hts := hts.more b191 (Nat.le_refl _)
      replace k3 := k3.below b191
      replace k59 := k59.below b191
      replace hOn := hOn.below b191
      replace hOi := hOi.below b191
      replace k173 := k173.below b191
      replace hB := below_then hB b191
      replace hL := LL.more hL z192
      refine Ge (dx_apO' (rs := ((nmA ss i).map eS)) (news := [eS r158.1]) rfl ty_ap_23 rfl rfl hOn (k190.rd (L := []) (by simp)) (fun r hr => by rw [List.mem_singleton.1 hr]; exact (oc_cons rfl oc_nil)) (by simp only [List.length_map, List.length_append, List.length_cons, List.length_nil]; unfold maxLen; omega) (by simp only [List.length_map, List.length_append, List.length_cons, List.length_nil]; omega)) rfl rfl ?_
      rintro u200 W201 ⟨B206, k202, g205⟩
      rw [show ((nmA ss i).map eS) ++ [eS r158.1] = (((nmA ss i) ++ [r158.1]).map eS) from by simp only [List.map_append, List.map_cons, List.map_nil]] at k202
      have q208 := hag.2.1
      have l209 : b0 ≤ B206 := g205.le hbn (by omega)
      have n211 : W4_.heap.size ≠ B206 := k59.grow_ne g205 n156.symm
      have n212 : Bi ≠ B206 := hOi.grow_ne g205 hni.symm
      have l207 := g205.le lbn hB.size
      replace hss := hss.grow' g205 (.tail _ (.tail _ (.head _)))
      replace hpt := hpt.grow' g205 (.tail _ (.tail _ (.head _)))
      replace hag := hag.grow' g205 (.tail _ (.tail _ (.head _)))
      replace hts := hts.grow' g205 (.tail _ (.tail _ (.head _)))
      replace k3 := k3.grow g205 n154.symm
      replace k59 := k59.grow g205 n156.symm
      replace hOi := hOi.grow g205 hni.symm
      replace k173 := k173.grow g205 n168.symm
      replace hB := g205.below hB lbn hB.size
      replace hL := LL.grow hL g205 k202.lt
      refine Va (dx_fld (o1 := 3) rfl ty_fld_26_3_3 rfl rfl) rfl rfl ?_
      refine WL.do (dx_store (cs' := [.int .i64 6, .int .i64 0, .string ⟨#[]⟩, u200, iv]) (vs := [u200]) rfl ty_size_23_1 rfl rfl (oc_one k202.one) (oc_cons k202.one oc_nil) k59 rfl (Nat.le_of_ble_eq_true rfl) rfl) rfl ?_
      rintro _ W215 ⟨k217, o216⟩
      replace k3 := k3.other o216 n55
      replace hOi := hOi.other o216 n157
      replace k173 := k173.other o216 n167.symm
      replace k202 := k202.other o216 n211.symm
      clear k59
      replace hss := hss.only o216 (.tail _ (.tail _ (.tail _ (.tail _ (.tail _ (.head _))))))
      replace hpt := hpt.only o216 (.tail _ (.tail _ (.tail _ (.tail _ (.tail _ (.head _))))))
      replace hag := hag.only o216 (.tail _ (.tail _ (.tail _ (.tail _ (.tail _ (.head _))))))
      replace hts := hts.only o216 (.tail _ (.tail _ (.tail _ (.tail _ (.tail _ (.head _))))))
      replace hB := o216.below hB l56
      replace hL := LL.only hL o216
      refine Ni (hK188 (Rg (Va (dx_fld (o1 := 4) rfl ty_fld_26_4_4 rfl rfl) rfl rfl (Va (dx_load rfl ty_one_24 rfl (k217.cell (k := 4) rfl)) rfl rfl (Va (dx_fld (o1 := 1) rfl ty_fld_43_1_1 rfl rfl) rfl rfl (Va (dx_loadN (cs := [.int .i64 r158.2.kind, .int .i64 r158.2.num, .string r158.2.text, r158.2.nv, r158.2.iv]) rfl ty_agg_26_5 rfl (k173.part 1 5) rfl) rfl rfl ?_))))))
      refine Ge (dx_lit1 (r := [.int .i64 r158.2.kind, .int .i64 r158.2.num, .string r158.2.text, r158.2.nv, r158.2.iv]) rfl ty_ap_24 (by decide) (by decide) rfl rfl rfl) rfl rfl ?_
      rintro u222 W218 ⟨k219, b220, z221⟩
      have l229 := hB.size
      replace hss := hss.more b220 (Nat.le_refl _)
      replace hpt := hpt.more b220 (Nat.le_refl _)
      replace hag := hag.more b220 (Nat.le_refl _)
      replace hts := hts.more b220 (Nat.le_refl _)
      replace k3 := k3.below b220
      replace k217 := k217.below b220
      replace hOi := hOi.below b220
      replace k202 := k202.below b220
      replace hB := below_then hB b220
      replace hL := LL.more hL z221
      refine Ge (dx_apO' (rs := ((itA ss i).map encT)) (news := [encT r158.2]) rfl ty_ap_24 rfl rfl hOi (k219.rd (L := []) (by simp)) (fun r hr => by rw [List.mem_singleton.1 hr]; exact (hpt r158.2 (List.mem_map.2 ⟨r158, List.mem_of_getElem? e159, rfl⟩)).oc) (by simp only [List.length_map, List.length_append, List.length_cons, List.length_nil]; unfold maxLen; omega) (by simp only [List.length_map, List.length_append, List.length_cons, List.length_nil]; omega)) rfl rfl ?_
      rintro u230 W231 ⟨B236, k232, g235⟩
      rw [show ((itA ss i).map encT) ++ [encT r158.2] = (((itA ss i) ++ [r158.2]).map encT) from by simp only [List.map_append, List.map_cons, List.map_nil]] at k232
      have q238 := hag.2.1
      have l239 : b0 ≤ B236 := g235.le hbi (by omega)
      have n241 : W4_.heap.size ≠ B236 := k217.grow_ne g235 n157.symm
      have n244 : B206 ≠ B236 := k202.grow_ne g235 n212.symm
      have l237 := g235.le lbi hB.size
      replace hss := hss.grow' g235 (.tail _ (.tail _ (.tail _ (.tail _ (.tail _ (.head _))))))
      replace hpt := hpt.grow' g235 (.tail _ (.tail _ (.tail _ (.tail _ (.tail _ (.head _))))))
      replace hag := hag.grow' g235 (.tail _ (.tail _ (.tail _ (.tail _ (.tail _ (.head _))))))
      replace hts := hts.grow' g235 (.tail _ (.tail _ (.tail _ (.tail _ (.tail _ (.head _))))))
      replace k3 := k3.grow g235 n155.symm
      replace k217 := k217.grow g235 n157.symm
      replace k202 := k202.grow g235 n212.symm
      replace hB := g235.below hB lbi hB.size
      replace hL := LL.grow hL g235 k232.lt
      refine Va (dx_fld (o1 := 4) rfl ty_fld_26_4_4 rfl rfl) rfl rfl ?_
      refine WL.do (dx_store (cs' := [.int .i64 6, .int .i64 0, .string ⟨#[]⟩, u200, u230]) (vs := [u230]) rfl ty_size_24_1 rfl rfl (oc_one k232.one) (oc_cons k232.one oc_nil) k217 rfl (Nat.le_of_ble_eq_true rfl) rfl) rfl ?_
      rintro _ W246 ⟨k248, o247⟩
      replace k3 := k3.other o247 n55
      replace k202 := k202.other o247 n211.symm
      replace k232 := k232.other o247 n241.symm
      clear k217
      replace hss := hss.only o247 (.tail _ (.tail _ (.tail _ (.tail _ (.tail _ (.tail _ (.tail _ (.head _))))))))
      replace hpt := hpt.only o247 (.tail _ (.tail _ (.tail _ (.tail _ (.tail _ (.tail _ (.tail _ (.head _))))))))
      replace hag := hag.only o247 (.tail _ (.tail _ (.tail _ (.tail _ (.tail _ (.tail _ (.tail _ (.head _))))))))
      replace hts := hts.only o247 (.tail _ (.tail _ (.tail _ (.tail _ (.tail _ (.tail _ (.tail _ (.head _))))))))
      replace hB := o247.below hB l56
      replace hL := LL.only hL o247
      refine Ni (hK67 (Rg (Va (dx_add (r := (i : Int) + 1) rfl rfl rfl (wrap64_id (by omega))) rfl rfl (Pu rfl (Ni ?_)))))
      have eN : ((nmA ss i) ++ [r158.1]) = (nmA ss (i + 1)) := by rw [nmA_add e159]
      have eT : ((itA ss i) ++ [r158.2]) = (itA ss (i + 1)) := by rw [itA_add e159]
      have hts2 : RdTs (n + 1) (B206 :: B236 :: W4_.heap.size :: w.heap.size :: L) W246 ((itA ss i) ++ [r158.2]) := fun c hc_ => by
       simp only [List.mem_append, List.mem_singleton, or_assoc] at hc_
       rcases hc_ with h_ | h_
       · exact (hts c h_).less (fun x hx => by simp only [List.mem_cons] at hx ⊢; rcases hx with h_ | h_ | h_ <;> simp [h_])
       · (rw [h_]; exact (hpt r158.2 (List.mem_map.2 ⟨r158, List.mem_of_getElem? e159, rfl⟩)).less (fun x hx => by simp only [List.mem_cons] at hx ⊢; rcases hx with h_ | h_ | h_ <;> simp [h_]))
      have hm2 : MembI (n + 1) b0 (W4_.heap.size :: w.heap.size :: L) u200 (nmA ss (i + 1)) u230 (itA ss (i + 1)) W246 := ⟨hb0L, .inr ⟨B206, B236, n244, by omega, by omega, (by rw [← eN]; exact k202), (by rw [← eT]; exact k232), (by rw [← eT]; exact hts2)⟩⟩
      have hL_ := hL.less (fun x hx => (.tail _ (.tail _ (.tail _ (.tail _ (.tail _ (.tail _ (.tail _ hx))))))))
      replace hag : AgL W57 (W4_.heap.size :: w.heap.size :: L) (W4_.heap.size :: w.heap.size :: L) W246 := ⟨fun _ h _ => h, hag.2⟩
      replace hss := hss6.agree hag.2
      replace hpt : RdTs (n + 1) (W4_.heap.size :: w.heap.size :: L) W246 (ss.map Prod.snd) := fun c hc_ => (hpt6 c hc_).agree hag.2
      replace hL := hL_
      exact hK62 (i + 1) u200 u230 ⟨(by omega), (rises_add hsw hr e159 hne), hB, hL, hss, hpt, hag, hm2, k3, k248⟩ (by omega) (by repeat first | exact trivial | exact And.intro rfl trivial | refine And.intro rfl ?_ | refine And.intro (congrArg (fun z : Int => some (Value.int .i64 z)) (by omega)) ?_)
  ·
   replace c66 := dF c66
   refine WC.exit ?_
   refine hK60 (Sq fun K249 hK249 => (Sq fun K250 hK250 => ?_))
   have hie : i = ss.length := by omega
   have hfz := foldZ_rises (ps := ss.map erP) (by rw [← nmA_all hie]; exact hr)
   refine Rg (Va (dx_loadN rfl ty_agg_26_5 rfl k59.range rfl) rfl rfl ?_)
   refine Ge (dx_cv rfl Try.func20 rfl rfl rfl (deepMk_v n _ _ nv iv W63 _ hL (hm.tree (fun x hx => hx) 6 0 ⟨#[]⟩))) rfl rfl ?_
   rintro _ W252 ⟨⟨dd, rfl, hdd⟩, b251⟩
   replace hm := hm.below b251
   replace k3 := k3.below b251
   replace k59 := k59.below b251
   replace hB := below_then hB b251
   refine Va (dx_gtr rfl rfl rfl) rfl rfl (Ni (hK250 ?_))
   refine WC.cond rfl (fun c253 => ?_) (fun c253 => ?_)
   ·
    replace c253 := dT c253
    refine Sq fun K254 hK254 => (Rg (Va (dx_build rfl rfl (built_of_O (cs := zV) (by kernel_rfl) oc_nil)) rfl rfl ?_))
    refine WL.do (dx_store (cs' := zV) (vs := zV) rfl ty_size_26_5 rfl rfl rfl (oc_cons rfl (oc_cons rfl (oc_cons rfl (oc_cons rfl (oc_cons rfl oc_nil))))) k3 rfl (Nat.le_of_ble_eq_true rfl) rfl) rfl ?_
    rintro _ W255 ⟨k257, o256⟩
    clear k3
    replace hB := o256.below hB l6
    refine Pu rfl (Ni (hK254 ?_))
    exact WC.ret fun a_ ha_ => hQ (cv_ret2 rfl (.agg rfl ty_agg_26_5 k257.range rfl) (.tmp rfl) (.inr ⟨4, rfl, by decide, hmp.trans (by obtain ⟨x_, hx_, hd_⟩ := hdd.1 (by omega); unfold itA at hx_; rw [hie, List.take_length] at hx_; obtain ⟨q_, hq_, rfl⟩ := List.mem_map.1 hx_; obtain ⟨k_, hk_⟩ := List.mem_iff_getElem?.1 hq_; exact make_4 hoks hfz hk_ hd_)⟩) hB ha_)
   ·
    replace c253 := dF c253
    refine WC.skip (hK249 (Sq fun K258 hK258 => (Rg (Va (dx_loadN rfl ty_agg_26_5 rfl k59.range rfl) rfl rfl ?_))))
    refine WL.do (dx_store (cs' := [.int .i64 6, .int .i64 0, .string ⟨#[]⟩, nv, iv]) (vs := [.int .i64 6, .int .i64 0, .string ⟨#[]⟩, nv, iv]) rfl ty_size_26_5 rfl rfl rfl (oc_cons rfl (oc_cons rfl (oc_cons rfl (oc_cons hm.one.1 (oc_cons hm.one.2 oc_nil))))) k3 rfl (Nat.le_of_ble_eq_true rfl) rfl) rfl ?_
    rintro _ W259 ⟨k261, o260⟩
    clear k3
    replace hm := hm.only o260 (.tail _ (.head _))
    replace hB := o260.below hB l6
    refine Pu rfl (Ni (hK258 ?_))
    exact WC.ret fun a_ ha_ => hQ (cv_ret2 rfl (.agg rfl ty_agg_26_5 k261.range rfl) (.tmp rfl) (.inl ⟨.mk 6 0 ⟨#[]⟩ nv (nmA ss i) iv (itA ss i), n + 1, rfl, hmp.trans (by rw [Tr.er_mk, nmA_all hie, itA_all hie]; exact make_k hoks hfz (fun j p hj hp hd_ => by have := hdd.2 ⟨p.2, by unfold itA; rw [hie, List.take_length]; exact List.mem_map.2 ⟨p, List.mem_of_getElem? hp, rfl⟩, hd_⟩; omega)), hm.tree (fun x hx => (.tail _ (.tail _ hx))) 6 0 ⟨#[]⟩⟩) hB ha_)

end Go.Proofs.Ytpinidlfcifeeaa

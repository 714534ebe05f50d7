/- Trees in the reference: deep, Get, same, Weigh. A slice of two structures of five cells that is written out. No program stands here. The fixed fact; w -/
import Derived.Sort.Grow
import Derived.WalkKit
import Derived.Shelf.Small.Bits
import Derived.Shelf.Strconv.Itoa0
import Derived.Shelf.Sort.Plain
import Derived.Shelf.Slices.In.SortNone
import Derived.Test.YtpinidlfcifeeaaProg
import Derived.Shelf.SlSortCmp.InsertionK
import Derived.Shelf.SlLaysF0
import Derived.Shelf.Lay
import Derived.Ground.SlsfProg
import Derived.Shelf.SlSortCmp.WholeK
import Derived.Shelf.SlSortCmp.NoneTotal
import Derived.Test.YtpinidlfcifeeaaVD
namespace Go.Proofs.Ytpinidlfcifeeaa
open Go.RowKit
set_option linter.unusedVariables false
set_option linter.unusedSimpArgs false
set_option maxRecDepth 8000
set_option maxHeartbeats 2000000

abbrev RefSameAt (n : Nat) : Prop := ∀ (p q : Tr) (w : World) (L : List Nat), LL L w → RdT n L w p → RdT n L w q → CV Try.prog 39 [.agg #[.int .i64 p.kind, .int .i64 p.num, .string p.text, p.nv, p.iv], .agg #[.int .i64 q.kind, .int .i64 q.num, .string q.text, q.nv, q.iv]] w fun x W => x = .bool (eqJ p.er q.er)
set_option maxHeartbeats 2000000 in
theorem refSame_step (n : Nat) (ih : RefSameAt n) (p q : Tr) (w : World) (L : List Nat) (hL : LL L w) (htp : RdT (n + 1) L w p) (htq : RdT (n + 1) L w q) : CV Try.prog 39 [.agg #[.int .i64 p.kind, .int .i64 p.num, .string p.text, p.nv, p.iv], .agg #[.int .i64 q.kind, .int .i64 q.num, .string q.text, q.nv, q.iv]] w fun v W => v = .bool (eqJ p.er q.er) := by
 refine cv_enter (N := 81) (f := [(0, .agg #[.int .i64 p.kind, .int .i64 p.num, .string p.text, p.nv, p.iv]), (1, .agg #[.int .i64 q.kind, .int .i64 q.num, .string q.text, q.nv, q.iv])]) Try.func39 rfl rfl rfl rfl fun Q hQ hE => ?_
 have hB := Below.refl w.heap.size w
 refine Sq fun K1 hK1 => ?_
 obtain ⟨hnp, hip, hcp⟩ := htp
 replace hcp : RdTs n (L) w p.items := hcp
 obtain ⟨hnq, hiq, hcq⟩ := htq
 replace hcq : RdTs n (L) w q.items := hcq
 have hil0 := hip.len
 rw [List.length_map] at hil0
 have hnl0 := hnp.len
 rw [List.length_map] at hnl0
 unfold maxLen at hil0 hnl0
 refine Rg ?_
 refine Ge (dx_box rfl rfl rfl) rfl rfl ?_
 rintro _ W2 ⟨rfl, k3, b4, z5⟩
 have l6 := hB.size
 replace hnp := hnp.more b4 (Nat.le_refl _)
 replace hip := hip.more b4 (Nat.le_refl _)
 replace hcp := hcp.more b4 (Nat.le_refl _)
 replace hnq := hnq.more b4 (Nat.le_refl _)
 replace hiq := hiq.more b4 (Nat.le_refl _)
 replace hcq := hcq.more b4 (Nat.le_refl _)
 replace hB := below_then hB b4
 replace hL := LL.more hL z5
 refine Ge (dx_box rfl rfl rfl) rfl rfl ?_
 rintro _ W7 ⟨rfl, k8, b9, z10⟩
 have l12 := hB.size
 replace hnp := hnp.more b9 (Nat.le_refl _)
 replace hip := hip.more b9 (Nat.le_refl _)
 replace hcp := hcp.more b9 (Nat.le_refl _)
 replace hnq := hnq.more b9 (Nat.le_refl _)
 replace hiq := hiq.more b9 (Nat.le_refl _)
 replace hcq := hcq.more b9 (Nat.le_refl _)
 replace k3 := k3.below b9
 replace hB := below_then hB b9
 replace hL := LL.more hL z10
 refine Pu rfl (Ni (hK1 (Sq fun K13 hK13 => (Sq fun K14 hK14 => (Rg (Va (dx_fld (o1 := 0) rfl ty_fld_26_0_0 rfl rfl) rfl rfl (Va (dx_load rfl ty_one_3 rfl (k3.cell (k := 0) rfl)) rfl rfl ?_)))))))
 refine Va (dx_fld (o1 := 0) rfl ty_fld_26_0_0 rfl rfl) rfl rfl (Va (dx_load rfl ty_one_3 rfl (k8.cell (k := 0) rfl)) rfl rfl (Va (dx_neq rfl rfl rfl) rfl rfl (Pu rfl ?_)))
 refine WL.split 12 rfl (fun g15 => ?_) (fun g15 => ?_)
 ·
  replace g15 := bnot_t g15
  replace g15 := dF g15
  refine Of rfl (Of rfl (Of rfl (Of rfl (Of rfl (Pu rfl (Pu rfl (Of rfl ?_)))))))
  refine Of rfl (Of rfl (Of rfl (Of rfl (Pu rfl (Pu rfl (Of rfl (Of rfl ?_)))))))
  refine Of rfl (Of rfl (Of rfl (Of rfl (Of rfl (Pu rfl (Pu rfl (Of rfl ?_)))))))
  refine Of rfl (Of rfl (Of rfl (Of rfl (Of rfl (Of rfl (Pu rfl (Ni ?_)))))))
  refine hK14 (WC.condT rfl (Sq fun K16 hK16 => (Rg (Pu rfl (Ni (hK16 ?_))))))
  exact WC.ret fun a_ ha_ => hQ (cv_ret1 rfl (.tmp rfl) (by rw [eqJ_f (fun e => by obtain ⟨e1, e2, e3, e4, _⟩ := er_parts e; have e5 := er_len e; have e6 := congrArg List.length e4; first | contradiction | (exact absurd e3 (by assumption)) | omega)]) hB ha_)
 ·
  replace g15 := bnot_f g15
  replace g15 := dT g15
  refine Va (dx_fld (o1 := 1) rfl ty_fld_26_1_1 rfl rfl) rfl rfl (Va (dx_load rfl ty_one_3 rfl (k3.cell (k := 1) rfl)) rfl rfl (Va (dx_fld (o1 := 1) rfl ty_fld_26_1_1 rfl rfl) rfl rfl (Va (dx_load rfl ty_one_3 rfl (k8.cell (k := 1) rfl)) rfl rfl (Va (dx_neq rfl rfl rfl) rfl rfl (Pu rfl (Pu rfl ?_))))))
  refine WL.split 19 rfl (fun g17 => ?_) (fun g17 => ?_)
  ·
   replace g17 := bnot_t g17
   replace g17 := dF g17
   refine Of rfl (Of rfl (Of rfl (Of rfl (Of rfl (Pu rfl (Pu rfl (Of rfl ?_)))))))
   refine Of rfl (Of rfl (Of rfl (Of rfl (Of rfl (Of rfl (Pu rfl (Pu rfl ?_)))))))
   refine Of rfl (Of rfl (Of rfl (Of rfl (Of rfl (Of rfl (Of rfl (Pu rfl ?_)))))))
   refine Ni (hK14 (WC.condT rfl (Sq fun K18 hK18 => (Rg (Pu rfl (Ni (hK18 ?_)))))))
   exact WC.ret fun a_ ha_ => hQ (cv_ret1 rfl (.tmp rfl) (by rw [eqJ_f (fun e => by obtain ⟨e1, e2, e3, e4, _⟩ := er_parts e; have e5 := er_len e; have e6 := congrArg List.length e4; first | contradiction | (exact absurd e3 (by assumption)) | omega)]) hB ha_)
  ·
   replace g17 := bnot_f g17
   replace g17 := dT g17
   refine Va (dx_fld (o1 := 2) rfl ty_fld_26_2_2 rfl rfl) rfl rfl (Va (dx_load rfl ty_one_9 rfl (k3.cell (k := 2) rfl)) rfl rfl (Va (dx_fld (o1 := 2) rfl ty_fld_26_2_2 rfl rfl) rfl rfl (Va (dx_load rfl ty_one_9 rfl (k8.cell (k := 2) rfl)) rfl rfl (Va (dx_neqT rfl rfl rfl) rfl rfl (Pu rfl (Pu rfl ?_))))))
   refine WL.split 26 rfl (fun g19 => ?_) (fun g19 => ?_)
   ·
    replace g19 := bnot_t g19
    replace g19 := dF g19
    refine Of rfl (Of rfl (Of rfl (Of rfl (Of rfl (Of rfl (Of rfl (Pu rfl ?_)))))))
    refine Pu rfl (Of rfl (Of rfl (Of rfl (Of rfl (Of rfl (Of rfl (Of rfl ?_)))))))
    refine Pu rfl (Ni (hK14 (WC.condT rfl (Sq fun K20 hK20 => (Rg (Pu rfl (Ni ?_)))))))
    refine hK20 ?_
    exact WC.ret fun a_ ha_ => hQ (cv_ret1 rfl (.tmp rfl) (by rw [eqJ_f (fun e => by obtain ⟨e1, e2, e3, e4, _⟩ := er_parts e; have e5 := er_len e; have e6 := congrArg List.length e4; first | contradiction | (exact absurd e3 (by assumption)) | omega)]) hB ha_)
   ·
    replace g19 := bnot_f g19
    replace g19 := dT g19
    refine Va (dx_fld (o1 := 3) rfl ty_fld_26_3_3 rfl rfl) rfl rfl (Va (dx_load rfl ty_one_23 rfl (k3.cell (k := 3) rfl)) rfl rfl (Va (dx_lenFM rfl ty_slice_23 rfl hnp) rfl rfl (Va (dx_fld (o1 := 3) rfl ty_fld_26_3_3 rfl rfl) rfl rfl (Va (dx_load rfl ty_one_23 rfl (k8.cell (k := 3) rfl)) rfl rfl (Va (dx_lenFM rfl ty_slice_23 rfl hnq) rfl rfl (Va (dx_neq rfl rfl rfl) rfl rfl (Pu rfl ?_)))))))
    refine Pu rfl ?_
    refine WL.split 35 rfl (fun g21 => ?_) (fun g21 => ?_)
    ·
     replace g21 := bnot_t g21
     replace g21 := dF g21
     refine Of rfl (Of rfl (Of rfl (Of rfl (Of rfl (Of rfl (Of rfl (Pu rfl ?_)))))))
     refine Ni (hK14 (WC.condT rfl (Sq fun K22 hK22 => (Rg (Pu rfl (Ni (hK22 ?_)))))))
     exact WC.ret fun a_ ha_ => hQ (cv_ret1 rfl (.tmp rfl) (by rw [eqJ_f (fun e => by obtain ⟨e1, e2, e3, e4, _⟩ := er_parts e; have e5 := er_len e; have e6 := congrArg List.length e4; first | contradiction | (exact absurd e3 (by assumption)) | omega)]) hB ha_)
    ·
     replace g21 := bnot_f g21
     replace g21 := dT g21
     refine Va (dx_fld (o1 := 4) rfl ty_fld_26_4_4 rfl rfl) rfl rfl (Va (dx_load rfl ty_one_24 rfl (k3.cell (k := 4) rfl)) rfl rfl (Va (dx_lenFM rfl ty_slice_24 rfl hip) rfl rfl (Va (dx_fld (o1 := 4) rfl ty_fld_26_4_4 rfl rfl) rfl rfl (Va (dx_load rfl ty_one_24 rfl (k8.cell (k := 4) rfl)) rfl rfl (Va (dx_lenFM rfl ty_slice_24 rfl hiq) rfl rfl (Va (dx_neq rfl rfl rfl) rfl rfl (Pu rfl ?_)))))))
     refine Ni (hK14 ?_)
     refine WC.cond rfl (fun c23 => ?_) (fun c23 => ?_)
     ·
      replace c23 := bnot_t c23
      replace c23 := dF c23
      refine Sq fun K24 hK24 => (Rg (Pu rfl (Ni (hK24 ?_))))
      exact WC.ret fun a_ ha_ => hQ (cv_ret1 rfl (.tmp rfl) (by rw [eqJ_f (fun e => by obtain ⟨e1, e2, e3, e4, _⟩ := er_parts e; have e5 := er_len e; have e6 := congrArg List.length e4; first | contradiction | (exact absurd e3 (by assumption)) | omega)]) hB ha_)
     ·
      replace c23 := bnot_f c23
      replace c23 := dT c23
      refine WC.skip (hK13 (Sq fun K25 hK25 => (Sq fun K26 hK26 => ?_)))
      have hln : p.items.length = q.items.length := by omega
      have hnn : p.names.length = q.names.length := by omega
      refine Rg (Pu rfl (Ni (hK26 (WC.block ?_))))
      refine WC.loop (fun (i : Nat) => [(2, .pointer (some ⟨w.heap.size, 0, none⟩)), (3, .pointer (some ⟨W2.heap.size, 0, none⟩)), (5, .int .i64 (i : Int))]) (fun (i : Nat) W => i ≤ p.names.length ∧ p.names.take i = q.names.take i ∧ Below w.heap.size w W ∧ LL (W2.heap.size :: w.heap.size :: L) W ∧ RdF 1 (W2.heap.size :: w.heap.size :: L) W p.nv (p.names.map eS) ∧ RdF 5 (W2.heap.size :: w.heap.size :: L) W p.iv (p.items.map encT) ∧ RdTs n (W2.heap.size :: w.heap.size :: L) W p.items ∧ RdF 1 (W2.heap.size :: w.heap.size :: L) W q.nv (q.names.map eS) ∧ RdF 5 (W2.heap.size :: w.heap.size :: L) W q.iv (q.items.map encT) ∧ RdTs n (W2.heap.size :: w.heap.size :: L) W q.items ∧ Blk W w.heap.size [.int .i64 p.kind, .int .i64 p.num, .string p.text, p.nv, p.iv] ∧ Blk W W2.heap.size [.int .i64 q.kind, .int .i64 q.num, .string q.text, q.nv, q.iv]) (fun (i : Nat) => p.names.length - i) 0 (by repeat first | exact trivial | exact And.intro rfl trivial | refine And.intro rfl ?_ | refine And.intro (congrArg (fun z : Int => some (Value.int .i64 z)) (by omega)) ?_) ⟨Nat.zero_le _, rfl, hB, hL, hnp, hip, hcp, hnq, hiq, hcq, k3, k8⟩ ?_
      clear hnp hip hcp hnq hiq hcq k3 k8 hB hL
      rintro K27 i W28 ⟨hi, hv, hB, hL, hnp, hip, hcp, hnq, hiq, hcq, k3, k8⟩ hK27
      refine Sq fun K29 hK29 => (Sq fun K30 hK30 => (Rg (Pu rfl (Va (dx_fld (o1 := 3) rfl ty_fld_26_3_3 rfl rfl) rfl rfl (Va (dx_load rfl ty_one_23 rfl (k3.cell (k := 3) rfl)) rfl rfl (Va (dx_lenFM rfl ty_slice_23 rfl hnp) rfl rfl (Va (dx_lss rfl rfl rfl) rfl rfl ?_)))))))
      refine Ni (hK30 ?_)
      refine WC.cond rfl (fun c31 => ?_) (fun c31 => ?_)
      ·
       replace c31 := dT c31
       refine WC.skip (hK29 (Sq fun K32 hK32 => (WC.block (Sq fun K33 hK33 => ?_))))
       obtain ⟨r34, e35⟩ : ∃ x, p.names[i]? = some x := ⟨_, List.getElem?_eq_getElem (by omega)⟩
       obtain ⟨r36, e37⟩ : ∃ x, q.names[i]? = some x := ⟨_, List.getElem?_eq_getElem (by omega)⟩
       refine WC.drawM 10 [(some 51, .is (.pointer (some ⟨w.heap.size, 3, none⟩))), (some 52, .is (p.nv)), (some 53, .is (.int .i64 (i : Int))), (some 54, .by fun u W => PtR (W2.heap.size :: w.heap.size :: L) W u [.string r34]), (some 55, .is (.string r34)), (some 56, .is (.pointer (some ⟨W2.heap.size, 3, none⟩))), (some 57, .is (q.nv)), (some 58, .is (.int .i64 (i : Int))), (some 59, .by fun u W => PtR (W2.heap.size :: w.heap.size :: L) W u [.string r36]), (some 60, .is (.string r36))] [[], [0], [], [1, 2], [3], [], [5], [], [6, 7], [8]] (by kernel_rfl) (by kernel_rfl) (by kernel_rfl) (by kernel_rfl) (by kernel_rfl) (by kernel_rfl) (by kernel_rfl) ⟨fun _ _ _ hb h => h.below hb, fun _ _ _ hb h => h.below hb, trivial⟩ ?_ ?_
       ·
        refine Dc (fun Wd hd => ?_) ?_
        ·
         exact Dd (dx_fld (o1 := 3) rfl ty_fld_26_3_3 rfl rfl) rfl
        refine Dc (fun Wd hd => ?_) ?_
        ·
         have k3 := k3.below hd
         exact Dd (dx_load rfl ty_one_23 rfl (k3.cell (k := 3) rfl)) rfl
        refine Dc (fun Wd hd => ?_) ?_
        ·
         exact Dd (dx_move rfl rfl) rfl
        refine Dc (fun Wd hd => ?_) ?_
        ·
         have hnp := hnp.below hd
         exact (dx_idxF i rfl ty_slice_23 rfl rfl hnp (by omega) (at_mapX e35)).mono (fun v W' h => ⟨by rw [← h.1]; exact Below.refl _ _, by rw [← h.1]; exact h.2⟩)
        refine Dc (fun Wd hd => ?_) ?_
        ·
         intro u6_3 p6_3
         exact Dd (dx_loadP rfl ty_one_9 rfl p6_3) rfl
        refine Dc (fun Wd hd => ?_) ?_
        ·
         exact Dd (dx_fld (o1 := 3) rfl ty_fld_26_3_3 rfl rfl) rfl
        refine Dc (fun Wd hd => ?_) ?_
        ·
         have k8 := k8.below hd
         exact Dd (dx_load rfl ty_one_23 rfl (k8.cell (k := 3) rfl)) rfl
        refine Dc (fun Wd hd => ?_) ?_
        ·
         exact Dd (dx_move rfl rfl) rfl
        refine Dc (fun Wd hd => ?_) ?_
        ·
         have hnq := hnq.below hd
         exact (dx_idxF i rfl ty_slice_23 rfl rfl hnq (by omega) (at_mapX e37)).mono (fun v W' h => ⟨by rw [← h.1]; exact Below.refl _ _, by rw [← h.1]; exact h.2⟩)
        refine Dc (fun Wd hd => ?_) ?_
        ·
         intro u6_8 p6_8
         exact Dd (dx_loadP rfl ty_one_9 rfl p6_8) rfl
        exact trivial
       ·
        intro W38 b39
        intro u6_3 p6_3
        intro u6_8 p6_8
        replace hnp := hnp.below b39
        replace hip := hip.below b39
        replace hcp := hcp.below b39
        replace hnq := hnq.below b39
        replace hiq := hiq.below b39
        replace hcq := hcq.below b39
        replace k3 := k3.below b39
        replace k8 := k8.below b39
        replace hB := below_then hB b39
        replace hL := LL.below hL b39
        refine Va (dx_neqT rfl rfl rfl) rfl rfl (Ni (hK33 ?_))
        refine WC.cond rfl (fun c40 => ?_) (fun c40 => ?_)
        ·
         replace c40 := bnot_t c40
         replace c40 := dF c40
         refine Sq fun K41 hK41 => (Rg (Pu rfl (Ni (hK41 ?_))))
         exact WC.ret fun a_ ha_ => hQ (cv_ret1 rfl (.tmp rfl) (by rw [eqJ_f (fun e => by obtain ⟨e1, e2, e3, e4, _⟩ := er_parts e; rw [e4, e37] at e35; cases e35; exact absurd rfl (by assumption))]) hB ha_)
        ·
         replace c40 := bnot_f c40
         replace c40 := dT c40
         refine WC.skip (hK32 (Rg (Pu rfl (Va (dx_add (r := (i : Int) + 1) rfl rfl rfl (wrap64_id (by omega))) rfl rfl (Pu rfl (Ni ?_))))))
         exact hK27 (i + 1) ⟨(by omega), (by rw [List.take_add_one, List.take_add_one, hv, e35, e37, show r34 = r36 by first | assumption | exact Classical.not_not.1 (by assumption)]), hB, hL, hnp, hip, hcp, hnq, hiq, hcq, k3, k8⟩ (by omega) (by repeat first | exact trivial | exact And.intro rfl trivial | refine And.intro rfl ?_ | refine And.intro (congrArg (fun z : Int => some (Value.int .i64 z)) (by omega)) ?_)
      ·
       replace c31 := dF c31
       refine WC.exit ?_
       refine hK25 (Sq fun K42 hK42 => (Sq fun K43 hK43 => ?_))
       have hns : p.names = q.names := by rw [List.take_of_length_le (by omega), List.take_of_length_le (by omega)] at hv; exact hv
       refine Rg (Pu rfl (Ni (hK43 (WC.block ?_))))
       refine WC.loop (fun (i : Nat) => [(2, .pointer (some ⟨w.heap.size, 0, none⟩)), (3, .pointer (some ⟨W2.heap.size, 0, none⟩)), (6, .int .i64 (i : Int))]) (fun (i : Nat) W => i ≤ p.items.length ∧ (∀ k x y, k < i → p.items[k]? = some x → q.items[k]? = some y → x.er = y.er) ∧ Below w.heap.size w W ∧ LL (W2.heap.size :: w.heap.size :: L) W ∧ RdF 1 (W2.heap.size :: w.heap.size :: L) W p.nv (p.names.map eS) ∧ RdF 5 (W2.heap.size :: w.heap.size :: L) W p.iv (p.items.map encT) ∧ RdTs n (W2.heap.size :: w.heap.size :: L) W p.items ∧ RdF 1 (W2.heap.size :: w.heap.size :: L) W q.nv (q.names.map eS) ∧ RdF 5 (W2.heap.size :: w.heap.size :: L) W q.iv (q.items.map encT) ∧ RdTs n (W2.heap.size :: w.heap.size :: L) W q.items ∧ Blk W w.heap.size [.int .i64 p.kind, .int .i64 p.num, .string p.text, p.nv, p.iv] ∧ Blk W W2.heap.size [.int .i64 q.kind, .int .i64 q.num, .string q.text, q.nv, q.iv]) (fun (i : Nat) => p.items.length - i) 0 (by repeat first | exact trivial | exact And.intro rfl trivial | refine And.intro rfl ?_ | refine And.intro (congrArg (fun z : Int => some (Value.int .i64 z)) (by omega)) ?_) ⟨Nat.zero_le _, (fun k x y hk => by omega), hB, hL, hnp, hip, hcp, hnq, hiq, hcq, k3, k8⟩ ?_
       clear hnp hip hcp hnq hiq hcq k3 k8 hB hL
       rintro K44 i W45 ⟨hi, hw, hB, hL, hnp, hip, hcp, hnq, hiq, hcq, k3, k8⟩ hK44
       refine Sq fun K46 hK46 => (Sq fun K47 hK47 => (Rg (Pu rfl (Va (dx_fld (o1 := 4) rfl ty_fld_26_4_4 rfl rfl) rfl rfl (Va (dx_load rfl ty_one_24 rfl (k3.cell (k := 4) rfl)) rfl rfl (Va (dx_lenFM rfl ty_slice_24 rfl hip) rfl rfl (Va (dx_lss rfl rfl rfl) rfl rfl ?_)))))))
       refine Ni (hK47 ?_)
       refine WC.cond rfl (fun c48 => ?_) (fun c48 => ?_)
       ·
        replace c48 := dT c48
        refine WC.skip (hK46 (Sq fun K49 hK49 => (WC.block (Sq fun K50 hK50 => ?_))))
        obtain ⟨r51, e52⟩ : ∃ x, p.items[i]? = some x := ⟨_, List.getElem?_eq_getElem (by omega)⟩
        obtain ⟨r53, e54⟩ : ∃ x, q.items[i]? = some x := ⟨_, List.getElem?_eq_getElem (by omega)⟩
        refine WC.drawM 10 [(some 69, .is (.pointer (some ⟨w.heap.size, 4, none⟩))), (some 70, .is (p.iv)), (some 71, .is (.int .i64 (i : Int))), (some 72, .by fun u W => PtR (W2.heap.size :: w.heap.size :: L) W u (encT r51)), (some 73, .is (.agg #[.int .i64 r51.kind, .int .i64 r51.num, .string r51.text, r51.nv, r51.iv])), (some 74, .is (.pointer (some ⟨W2.heap.size, 4, none⟩))), (some 75, .is (q.iv)), (some 76, .is (.int .i64 (i : Int))), (some 77, .by fun u W => PtR (W2.heap.size :: w.heap.size :: L) W u (encT r53)), (some 78, .is (.agg #[.int .i64 r53.kind, .int .i64 r53.num, .string r53.text, r53.nv, r53.iv]))] [[], [0], [], [1, 2], [3], [], [5], [], [6, 7], [8]] (by kernel_rfl) (by kernel_rfl) (by kernel_rfl) (by kernel_rfl) (by kernel_rfl) (by kernel_rfl) (by kernel_rfl) ⟨fun _ _ _ hb h => h.below hb, fun _ _ _ hb h => h.below hb, trivial⟩ ?_ ?_
        ·
         refine Dc (fun Wd hd => ?_) ?_
         ·
          exact Dd (dx_fld (o1 := 4) rfl ty_fld_26_4_4 rfl rfl) rfl
         refine Dc (fun Wd hd => ?_) ?_
         ·
          have k3 := k3.below hd
          exact Dd (dx_load rfl ty_one_24 rfl (k3.cell (k := 4) rfl)) rfl
         refine Dc (fun Wd hd => ?_) ?_
         ·
          exact Dd (dx_move rfl rfl) rfl
         refine Dc (fun Wd hd => ?_) ?_
         ·
          have hip := hip.below hd
          exact (dx_idxF i rfl ty_slice_24 rfl rfl hip (by omega) (at_mapX e52)).mono (fun v W' h => ⟨by rw [← h.1]; exact Below.refl _ _, by rw [← h.1]; exact h.2⟩)
         refine Dc (fun Wd hd => ?_) ?_
         ·
          intro u11_3 p11_3
          exact Dd (dx_loadPN rfl ty_agg_26_5 rfl p11_3 rfl) rfl
         refine Dc (fun Wd hd => ?_) ?_
         ·
          exact Dd (dx_fld (o1 := 4) rfl ty_fld_26_4_4 rfl rfl) rfl
         refine Dc (fun Wd hd => ?_) ?_
         ·
          have k8 := k8.below hd
          exact Dd (dx_load rfl ty_one_24 rfl (k8.cell (k := 4) rfl)) rfl
         refine Dc (fun Wd hd => ?_) ?_
         ·
          exact Dd (dx_move rfl rfl) rfl
         refine Dc (fun Wd hd => ?_) ?_
         ·
          have hiq := hiq.below hd
          exact (dx_idxF i rfl ty_slice_24 rfl rfl hiq (by omega) (at_mapX e54)).mono (fun v W' h => ⟨by rw [← h.1]; exact Below.refl _ _, by rw [← h.1]; exact h.2⟩)
         refine Dc (fun Wd hd => ?_) ?_
         ·
          intro u11_8 p11_8
          exact Dd (dx_loadPN rfl ty_agg_26_5 rfl p11_8 rfl) rfl
         exact trivial
        ·
         intro W55 b56
         intro u11_3 p11_3
         intro u11_8 p11_8
         replace hnp := hnp.below b56
         replace hip := hip.below b56
         replace hcp := hcp.below b56
         replace hnq := hnq.below b56
         replace hiq := hiq.below b56
         replace hcq := hcq.below b56
         replace k3 := k3.below b56
         replace k8 := k8.below b56
         replace hB := below_then hB b56
         replace hL := LL.below hL b56
         refine Ge (dx_cv rfl Try.func39 rfl rfl rfl (ih r51 r53 W55 _ hL (hcp r51 (List.mem_of_getElem? e52)) (hcq r53 (List.mem_of_getElem? e54)))) rfl rfl ?_
         rintro _ W58 ⟨rfl, b57⟩
         replace hnp := hnp.below b57
         replace hip := hip.below b57
         replace hcp := hcp.below b57
         replace hnq := hnq.below b57
         replace hiq := hiq.below b57
         replace hcq := hcq.below b57
         replace k3 := k3.below b57
         replace k8 := k8.below b57
         replace hB := below_then hB b57
         replace hL := LL.below hL b57
         refine Va (dx_not rfl rfl) rfl rfl (Ni (hK50 ?_))
         refine WC.cond rfl (fun c59 => ?_) (fun c59 => ?_)
         ·
          replace c59 := bnot_t c59
          refine Sq fun K60 hK60 => (Rg (Pu rfl (Ni (hK60 ?_))))
          exact WC.ret fun a_ ha_ => hQ (cv_ret1 rfl (.tmp rfl) (by rw [eqJ_f (fun e => by have hce := er_item e e52 e54; have := eqJ_t hce; simp_all)]) hB ha_)
         ·
          replace c59 := bnot_f c59
          refine WC.skip (hK49 (Rg (Pu rfl (Va (dx_add (r := (i : Int) + 1) rfl rfl rfl (wrap64_id (by omega))) rfl rfl (Pu rfl (Ni ?_))))))
          have hce : r51.er = r53.er := Classical.byContradiction fun hn_ => by have := eqJ_f hn_; simp_all
          exact hK44 (i + 1) ⟨(by omega), (fun k x y hk hx hy => by rcases Nat.lt_or_ge k i with hl | hl; exact hw k x y hl hx hy; obtain rfl : k = i := (by omega); rw [e52] at hx; rw [e54] at hy; cases hx; cases hy; exact hce), hB, hL, hnp, hip, hcp, hnq, hiq, hcq, k3, k8⟩ (by omega) (by repeat first | exact trivial | exact And.intro rfl trivial | refine And.intro rfl ?_ | refine And.intro (congrArg (fun z : Int => some (Value.int .i64 z)) (by omega)) ?_)
       ·
        replace c48 := dF c48
        refine WC.exit ?_
        refine hK42 (Sq fun K61 hK61 => (Rg (Pu rfl (Ni (hK61 ?_)))))
        exact WC.ret fun a_ ha_ => hQ (cv_ret1 rfl (.tmp rfl) (by rw [eqJ_t (er_eq (by first | assumption | simp_all) (by first | assumption | simp_all) (by first | assumption | simp_all) hns hln (fun k c d hc hd => hw k c d (by have := (List.getElem?_eq_some_iff.1 hc).1; omega) hc hd))]) hB ha_)

theorem refSame_all : ∀ n, RefSameAt n
 | 0 => fun p q _ _ _ h => h.elim
 | n + 1 => fun p q w L hL h1 h2 => refSame_step n (refSame_all n) p q w L hL h1 h2
set_option maxHeartbeats 1000000 in
theorem alike_v (n : Nat) (p q : Tr) (w : World) (L : List Nat) (hL : LL L w) (htp : RdT (n + 1) L w p) (htq : RdT (n + 1) L w q) : CV Try.prog 14 [.agg #[.int .i64 p.kind, .int .i64 p.num, .string p.text, p.nv, p.iv], .agg #[.int .i64 q.kind, .int .i64 q.num, .string q.text, q.nv, q.iv]] w fun v W => v = .bool (eqJ p.er q.er) := by
 refine cv_enter (N := 8) (f := [(0, .agg #[.int .i64 p.kind, .int .i64 p.num, .string p.text, p.nv, p.iv]), (1, .agg #[.int .i64 q.kind, .int .i64 q.num, .string q.text, q.nv, q.iv])]) Try.func14 rfl rfl rfl rfl fun Q hQ hE => ?_
 have hB := Below.refl w.heap.size w
 refine Sq fun K1 hK1 => ?_
 obtain ⟨hnp, hip, hcp⟩ := htp
 replace hcp : RdTs n (L) w p.items := hcp
 obtain ⟨hnq, hiq, hcq⟩ := htq
 replace hcq : RdTs n (L) w q.items := hcq
 refine Rg ?_
 refine Ge (dx_box rfl rfl rfl) rfl rfl ?_
 rintro _ W2 ⟨rfl, k3, b4, z5⟩
 have l6 := hB.size
 replace hnp := hnp.more b4 (Nat.le_refl _)
 replace hip := hip.more b4 (Nat.le_refl _)
 replace hcp := hcp.more b4 (Nat.le_refl _)
 replace hnq := hnq.more b4 (Nat.le_refl _)
 replace hiq := hiq.more b4 (Nat.le_refl _)
 replace hcq := hcq.more b4 (Nat.le_refl _)
 replace hB := below_then hB b4
 replace hL := LL.more hL z5
 refine Ge (dx_box rfl rfl rfl) rfl rfl ?_
 rintro _ W7 ⟨rfl, k8, b9, z10⟩
 have l12 := hB.size
 replace hnp := hnp.more b9 (Nat.le_refl _)
 replace hip := hip.more b9 (Nat.le_refl _)
 replace hcp := hcp.more b9 (Nat.le_refl _)
 replace hnq := hnq.more b9 (Nat.le_refl _)
 replace hiq := hiq.more b9 (Nat.le_refl _)
 replace hcq := hcq.more b9 (Nat.le_refl _)
 replace k3 := k3.below b9
 replace hB := below_then hB b9
 replace hL := LL.more hL z10
 refine Pu rfl (Ni (hK1 (Sq fun K13 hK13 => (Rg (Va (dx_loadN rfl ty_agg_26_5 rfl k3.range rfl) rfl rfl (Va (dx_loadN rfl ty_agg_26_5 rfl k8.range rfl) rfl rfl ?_))))))
 refine Ge (dx_cv rfl Try.func39 rfl rfl rfl (refSame_all (n + 1) p q W7 _ hL (show RdT (n + 1) (W2.heap.size :: w.heap.size :: L) W7 p from ⟨hnp, hip, hcp⟩) (show RdT (n + 1) (W2.heap.size :: w.heap.size :: L) W7 q from ⟨hnq, hiq, hcq⟩))) rfl rfl ?_
 rintro _ W15 ⟨rfl, b14⟩
 replace hB := below_then hB b14
 refine Pu rfl (Ni (hK13 ?_))
 exact WC.ret fun a_ ha_ => hQ (cv_ret1 rfl (.tmp rfl) rfl hB ha_)

abbrev WeighAt (n : Nat) : Prop := ∀ (t : Tr) (most : Nat) (w : World) (L : List Nat), LL L w → RdT n L w t → most ≤ 1000000 → CV Try.prog 28 [.agg #[.int .i64 t.kind, .int .i64 t.num, .string t.text, t.nv, t.iv], .int .i64 (most : Int)] w fun v W => ∃ z : Int, v = .int .i64 z ∧ 1 ≤ z ∧ z ≤ 3 * (most : Int) + 3 ∧ (z ≤ (most : Int) → SzT most n t)
set_option maxHeartbeats 2000000 in
theorem weigh_step (n : Nat) (ih : WeighAt n) (t : Tr) (most : Nat) (w : World) (L : List Nat) (hL : LL L w) (ht : RdT (n + 1) L w t)  (hrm : most ≤ 1000000) : CV Try.prog 28 [.agg #[.int .i64 t.kind, .int .i64 t.num, .string t.text, t.nv, t.iv], .int .i64 (most : Int)] w fun v W => ∃ z : Int, v = .int .i64 z ∧ 1 ≤ z ∧ z ≤ 3 * (most : Int) + 3 ∧ (z ≤ (most : Int) → SzT most (n + 1) t) := by
 refine cv_enter (N := 61) (f := [(0, .agg #[.int .i64 t.kind, .int .i64 t.num, .string t.text, t.nv, t.iv]), (1, .int .i64 (most : Int))]) Try.func28 rfl rfl rfl rfl fun Q hQ hE => ?_
 have hB := Below.refl w.heap.size w
 refine Sq fun K1 hK1 => ?_
 obtain ⟨hnt, hit, hct⟩ := ht
 replace hct : RdTs n (L) w t.items := hct
 have hil0 := hit.len
 rw [List.length_map] at hil0
 have hnl0 := hnt.len
 rw [List.length_map] at hnl0
 unfold maxLen at hil0 hnl0
 refine Rg ?_
 refine Ge (dx_box rfl rfl rfl) rfl rfl ?_
 rintro _ W2 ⟨rfl, k3, b4, z5⟩
 have l6 := hB.size
 replace hnt := hnt.more b4 (Nat.le_refl _)
 replace hit := hit.more b4 (Nat.le_refl _)
 replace hct := hct.more b4 (Nat.le_refl _)
 replace hB := below_then hB b4
 replace hL := LL.more hL z5
 refine Pu rfl (Ni (hK1 (Sq fun K7 hK7 => (Rg (Va (dx_fld (o1 := 2) rfl ty_fld_26_2_2 rfl rfl) rfl rfl (Va (dx_load rfl ty_one_9 rfl (k3.cell (k := 2) rfl)) rfl rfl (Va (dx_lenT rfl Try.underlying9 rfl) rfl rfl ?_)))))))
 refine Pu rfl (Va (dx_min rfl rfl rfl) rfl rfl (Va (dx_add (r := 1 + (if (most : Int) < ((t.text).size : Int) then (most : Int) else ((t.text).size : Int))) rfl rfl rfl (wrap64_id (by omega))) rfl rfl (Pu rfl (Ni (hK7 (Sq fun K8 hK8 => (Sq fun K9 hK9 => ?_)))))))
 refine Rg (Pu rfl (Ni (hK9 (WC.block ?_))))
 have hz0 := (show True from trivial)
 refine WC.loop2 (fun (i : Nat) (z : Int) => [(1, .int .i64 (most : Int)), (2, .pointer (some ⟨w.heap.size, 0, none⟩)), (6, .int .i64 (i : Int)), (5, .int .i64 z)]) (fun (i : Nat) (z : Int) W => i ≤ t.names.length ∧ (1 + (i : Int) ≤ z) ∧ z ≤ 3 * (most : Int) + 3 ∧ (z ≤ (most : Int) → t.text.size ≤ most ∧ ∀ k a, k < i → t.names[k]? = some a → a.size ≤ most) ∧ Below w.heap.size w W ∧ LL (w.heap.size :: L) W ∧ RdF 1 (w.heap.size :: L) W t.nv (t.names.map eS) ∧ RdF 5 (w.heap.size :: L) W t.iv (t.items.map encT) ∧ RdTs n (w.heap.size :: L) W t.items ∧ Blk W w.heap.size [.int .i64 t.kind, .int .i64 t.num, .string t.text, t.nv, t.iv]) (fun (i : Nat) (z : Int) => t.names.length - i) 0 (1 + (if (most : Int) < ((t.text).size : Int) then (most : Int) else ((t.text).size : Int))) (by repeat first | exact trivial | exact And.intro rfl trivial | refine And.intro rfl ?_ | refine And.intro (congrArg (fun z : Int => some (Value.int .i64 z)) (by omega)) ?_) ⟨Nat.zero_le _, (by omega), (by omega), (fun hh => ⟨by omega, fun k a hk => by omega⟩), hB, hL, hnt, hit, hct, k3⟩ ?_
 clear hnt hit hct k3 hB hL
 rintro K10 i z W11 ⟨hi, hz1, hz2, hs, hB, hL, hnt, hit, hct, k3⟩ hK10
 refine Sq fun K12 hK12 => (Sq fun K13 hK13 => (Rg (Pu rfl (Va (dx_fld (o1 := 3) rfl ty_fld_26_3_3 rfl rfl) rfl rfl (Va (dx_load rfl ty_one_23 rfl (k3.cell (k := 3) rfl)) rfl rfl (Va (dx_lenFM rfl ty_slice_23 rfl hnt) rfl rfl (Va (dx_lss rfl rfl rfl) rfl rfl ?_)))))))
 refine Pu rfl ?_
 refine WL.split 19 rfl (fun g14 => ?_) (fun g14 => ?_)
 ·
  replace g14 := dT g14
  refine Pu rfl (Pu rfl (Va (dx_leq rfl rfl rfl) rfl rfl (Pu rfl (Ni (hK13 ?_)))))
  refine WC.cond rfl (fun c15 => ?_) (fun c15 => ?_)
  ·
   replace c15 := dT c15
   refine WC.skip (hK12 (Sq fun K16 hK16 => (WC.block (Rg (Pu rfl (Va (dx_add (r := z + 1) rfl rfl rfl (wrap64_id (by omega))) rfl rfl (Va (dx_fld (o1 := 3) rfl ty_fld_26_3_3 rfl rfl) rfl rfl ?_)))))))
   refine Va (dx_load rfl ty_one_23 rfl (k3.cell (k := 3) rfl)) rfl rfl (Pu rfl ?_)
   obtain ⟨r17, e18⟩ : ∃ x, t.names[i]? = some x := ⟨_, List.getElem?_eq_getElem (by omega)⟩
   refine Ge (dx_idxF i rfl ty_slice_23 rfl rfl hnt (by omega) (at_mapX e18)) rfl rfl ?_
   rintro u19 _ ⟨rfl, p20⟩
   refine Va (dx_loadP rfl ty_one_9 rfl p20) rfl rfl (Va (dx_lenT rfl Try.underlying9 rfl) rfl rfl (Pu rfl (Va (dx_min rfl rfl rfl) rfl rfl (Va (dx_add (r := (z + 1) + (if (most : Int) < (r17.size : Int) then (most : Int) else (r17.size : Int))) rfl rfl rfl (wrap64_id (by omega))) rfl rfl (Pu rfl (Ni (hK16 ?_)))))))
   refine Rg (Pu rfl (Va (dx_add (r := (i : Int) + 1) rfl rfl rfl (wrap64_id (by omega))) rfl rfl (Pu rfl (Ni ?_))))
   exact hK10 (i + 1) ((z + 1) + (if (most : Int) < (r17.size : Int) then (most : Int) else (r17.size : Int))) ⟨(by omega), (by omega), (by omega), (fun hh => ⟨by have := (hs (by omega)).1; omega, fun k a hk ha => by rcases Nat.lt_or_ge k i with hl | hl; exact (hs (by omega)).2 k a hl ha; obtain rfl : k = i := (by omega); rw [e18] at ha; cases ha; omega⟩), hB, hL, hnt, hit, hct, k3⟩ (by omega) (by repeat first | exact trivial | exact And.intro rfl trivial | refine And.intro rfl ?_ | refine And.intro (congrArg (fun z : Int => some (Value.int .i64 z)) (by omega)) ?_)
  ·
   replace c15 := dF c15
   refine WC.exit ?_
   refine hK8 (Sq fun K21 hK21 => (Sq fun K22 hK22 => (Rg (Pu rfl (Ni (hK22 (WC.block ?_)))))))
   have hnames : z ≤ (most : Int) → t.text.size ≤ most ∧ t.names.length ≤ most ∧ ∀ a ∈ t.names, a.size ≤ most := fun hh => by have hie : i = t.names.length := (by omega); refine ⟨(hs hh).1, by omega, fun a ha => ?_⟩; obtain ⟨k, hk⟩ := List.getElem?_of_mem ha; exact (hs hh).2 k a (by have := (List.getElem?_eq_some_iff.1 hk).1; omega) hk
   refine WC.loop2 (fun (j : Nat) (y : Int) => [(1, .int .i64 (most : Int)), (2, .pointer (some ⟨w.heap.size, 0, none⟩)), (7, .int .i64 (j : Int)), (5, .int .i64 y)]) (fun (j : Nat) (y : Int) W => j ≤ t.items.length ∧ (1 + (j : Int) ≤ y) ∧ y ≤ 3 * (most : Int) + 3 ∧ (y ≤ (most : Int) → (t.text.size ≤ most ∧ t.names.length ≤ most ∧ ∀ a ∈ t.names, a.size ≤ most) ∧ ∀ k c, k < j → t.items[k]? = some c → SzT most n c) ∧ Below w.heap.size w W ∧ LL (w.heap.size :: L) W ∧ RdF 1 (w.heap.size :: L) W t.nv (t.names.map eS) ∧ RdF 5 (w.heap.size :: L) W t.iv (t.items.map encT) ∧ RdTs n (w.heap.size :: L) W t.items ∧ Blk W w.heap.size [.int .i64 t.kind, .int .i64 t.num, .string t.text, t.nv, t.iv]) (fun (j : Nat) (y : Int) => t.items.length - j) 0 z (by repeat first | exact trivial | exact And.intro rfl trivial | refine And.intro rfl ?_ | refine And.intro (congrArg (fun z : Int => some (Value.int .i64 z)) (by omega)) ?_) ⟨Nat.zero_le _, (by omega), (by omega), (fun hh => ⟨hnames hh, fun k c hk => by omega⟩), hB, hL, hnt, hit, hct, k3⟩ ?_
   clear hnt hit hct k3 hB hL
   rintro K23 j y W24 ⟨hj, hy1, hy2, ht2, hB, hL, hnt, hit, hct, k3⟩ hK23
   refine Sq fun K25 hK25 => (Sq fun K26 hK26 => (Rg (Pu rfl (Va (dx_fld (o1 := 4) rfl ty_fld_26_4_4 rfl rfl) rfl rfl (Va (dx_load rfl ty_one_24 rfl (k3.cell (k := 4) rfl)) rfl rfl (Va (dx_lenFM rfl ty_slice_24 rfl hit) rfl rfl (Va (dx_lss rfl rfl rfl) rfl rfl ?_)))))))
   refine Pu rfl ?_
   refine WL.split 42 rfl (fun g27 => ?_) (fun g27 => ?_)
   ·
    replace g27 := dT g27
    refine Pu rfl (Pu rfl (Va (dx_leq rfl rfl rfl) rfl rfl (Pu rfl (Ni (hK26 ?_)))))
    refine WC.cond rfl (fun c28 => ?_) (fun c28 => ?_)
    ·
     replace c28 := dT c28
     refine WC.skip (hK25 (Sq fun K29 hK29 => (WC.block ?_)))
     obtain ⟨mm, hmm⟩ : ∃ k : Nat, (k : Int) = (most : Int) - y := ⟨((most : Int) - y).toNat, by omega⟩
     refine Rg (Pu rfl (Va (dx_fld (o1 := 4) rfl ty_fld_26_4_4 rfl rfl) rfl rfl (Va (dx_load rfl ty_one_24 rfl (k3.cell (k := 4) rfl)) rfl rfl (Pu rfl ?_))))
     obtain ⟨r30, e31⟩ : ∃ x, t.items[j]? = some x := ⟨_, List.getElem?_eq_getElem (by omega)⟩
     refine Ge (dx_idxF j rfl ty_slice_24 rfl rfl hit (by omega) (at_mapX e31)) rfl rfl ?_
     rintro u32 _ ⟨rfl, p33⟩
     refine Va (dx_loadPN rfl ty_agg_26_5 rfl p33 rfl) rfl rfl (Pu rfl (Pu rfl (Va (dx_sub (r := (mm : Int)) rfl rfl rfl (by rw [wrap64_id (by omega)]; omega)) rfl rfl ?_)))
     refine Ge (dx_cv rfl Try.func28 rfl rfl rfl (ih r30 mm W24 _ hL (hct r30 (List.mem_of_getElem? e31)) (by omega))) rfl rfl ?_
     rintro _ W35 ⟨⟨wz, rfl, hw1, hw2, hws⟩, b34⟩
     replace hnt := hnt.below b34
     replace hit := hit.below b34
     replace hct := hct.below b34
     replace k3 := k3.below b34
     replace hB := below_then hB b34
     replace hL := LL.below hL b34
     refine Va (dx_add (r := y + wz) rfl rfl rfl (wrap64_id (by omega))) rfl rfl (Pu rfl (Ni (hK29 (Rg (Pu rfl (Va (dx_add (r := (j : Int) + 1) rfl rfl rfl (wrap64_id (by omega))) rfl rfl (Pu rfl ?_)))))))
     refine Ni ?_
     exact hK23 (j + 1) (y + wz) ⟨(by omega), (by omega), (by omega), (fun hh => by obtain ⟨q1, q2⟩ := ht2 (by omega); exact ⟨q1, fun k a hk ha => by rcases Nat.lt_or_ge k j with hl | hl; exact q2 k a hl ha; obtain rfl : k = j := (by omega); rw [e31] at ha; cases ha; exact (hws (by omega)).le (by omega)⟩), hB, hL, hnt, hit, hct, k3⟩ (by omega) (by repeat first | exact trivial | exact And.intro rfl trivial | refine And.intro rfl ?_ | refine And.intro (congrArg (fun z : Int => some (Value.int .i64 z)) (by omega)) ?_)
    ·
     replace c28 := dF c28
     refine WC.exit ?_
     refine hK21 (Sq fun K36 hK36 => (Rg (Pu rfl (Pu rfl (Ni (hK36 ?_))))))
     exact WC.ret fun a_ ha_ => hQ (cv_ret1 rfl (.tmp rfl) ⟨_, rfl, by omega, by omega, fun hh => by obtain ⟨⟨q1, q2, q3⟩, q4⟩ := ht2 hh; have hje : j = t.items.length := (by omega); exact ⟨q1, q2, by omega, q3, fun c hc => by obtain ⟨k, hk⟩ := List.getElem?_of_mem hc; exact q4 k c (by have := (List.getElem?_eq_some_iff.1 hk).1; omega) hk⟩⟩ hB ha_)
   ·
    replace g27 := dF g27
    refine Of rfl (Of rfl (Of rfl (Pu rfl (Ni (hK26 (WC.condF rfl ?_))))))
    refine WC.exit ?_
    refine hK21 (Sq fun K37 hK37 => (Rg (Pu rfl (Pu rfl (Ni (hK37 ?_))))))
    exact WC.ret fun a_ ha_ => hQ (cv_ret1 rfl (.tmp rfl) ⟨_, rfl, by omega, by omega, fun hh => by obtain ⟨⟨q1, q2, q3⟩, q4⟩ := ht2 hh; have hje : j = t.items.length := (by omega); exact ⟨q1, q2, by omega, q3, fun c hc => by obtain ⟨k, hk⟩ := List.getElem?_of_mem hc; exact q4 k c (by have := (List.getElem?_eq_some_iff.1 hk).1; omega) hk⟩⟩ hB ha_)
 ·
  replace g14 := dF g14
  refine Of rfl (Of rfl (Of rfl (Pu rfl (Ni (hK13 (WC.condF rfl ?_))))))
  refine WC.exit ?_
  refine hK8 (Sq fun K38 hK38 => (Sq fun K39 hK39 => (Rg (Pu rfl (Ni (hK39 (WC.block ?_)))))))
  have hnames : z ≤ (most : Int) → t.text.size ≤ most ∧ t.names.length ≤ most ∧ ∀ a ∈ t.names, a.size ≤ most := fun hh => by have hie : i = t.names.length := (by omega); refine ⟨(hs hh).1, by omega, fun a ha => ?_⟩; obtain ⟨k, hk⟩ := List.getElem?_of_mem ha; exact (hs hh).2 k a (by have := (List.getElem?_eq_some_iff.1 hk).1; omega) hk
  refine WC.loop2 (fun (j : Nat) (y : Int) => [(1, .int .i64 (most : Int)), (2, .pointer (some ⟨w.heap.size, 0, none⟩)), (7, .int .i64 (j : Int)), (5, .int .i64 y)]) (fun (j : Nat) (y : Int) W => j ≤ t.items.length ∧ (1 + (j : Int) ≤ y) ∧ y ≤ 3 * (most : Int) + 3 ∧ (y ≤ (most : Int) → (t.text.size ≤ most ∧ t.names.length ≤ most ∧ ∀ a ∈ t.names, a.size ≤ most) ∧ ∀ k c, k < j → t.items[k]? = some c → SzT most n c) ∧ Below w.heap.size w W ∧ LL (w.heap.size :: L) W ∧ RdF 1 (w.heap.size :: L) W t.nv (t.names.map eS) ∧ RdF 5 (w.heap.size :: L) W t.iv (t.items.map encT) ∧ RdTs n (w.heap.size :: L) W t.items ∧ Blk W w.heap.size [.int .i64 t.kind, .int .i64 t.num, .string t.text, t.nv, t.iv]) (fun (j : Nat) (y : Int) => t.items.length - j) 0 z (by repeat first | exact trivial | exact And.intro rfl trivial | refine And.intro rfl ?_ | refine And.intro (congrArg (fun z : Int => some (Value.int .i64 z)) (by omega)) ?_) ⟨Nat.zero_le _, (by omega), (by omega), (fun hh => ⟨hnames hh, fun k c hk => by omega⟩), hB, hL, hnt, hit, hct, k3⟩ ?_
  clear hnt hit hct k3 hB hL
  rintro K40 j y W41 ⟨hj, hy1, hy2, ht2, hB, hL, hnt, hit, hct, k3⟩ hK40
  refine Sq fun K42 hK42 => (Sq fun K43 hK43 => (Rg (Pu rfl (Va (dx_fld (o1 := 4) rfl ty_fld_26_4_4 rfl rfl) rfl rfl (Va (dx_load rfl ty_one_24 rfl (k3.cell (k := 4) rfl)) rfl rfl (Va (dx_lenFM rfl ty_slice_24 rfl hit) rfl rfl (Va (dx_lss rfl rfl rfl) rfl rfl ?_)))))))
  refine Pu rfl ?_
  refine WL.split 42 rfl (fun g44 => ?_) (fun g44 => ?_)
  ·
   replace g44 := dT g44
   refine Pu rfl (Pu rfl (Va (dx_leq rfl rfl rfl) rfl rfl (Pu rfl (Ni (hK43 ?_)))))
   refine WC.cond rfl (fun c45 => ?_) (fun c45 => ?_)
   ·
    replace c45 := dT c45
    refine WC.skip (hK42 (Sq fun K46 hK46 => (WC.block ?_)))
    obtain ⟨mm, hmm⟩ : ∃ k : Nat, (k : Int) = (most : Int) - y := ⟨((most : Int) - y).toNat, by omega⟩
    refine Rg (Pu rfl (Va (dx_fld (o1 := 4) rfl ty_fld_26_4_4 rfl rfl) rfl rfl (Va (dx_load rfl ty_one_24 rfl (k3.cell (k := 4) rfl)) rfl rfl (Pu rfl ?_))))
    obtain ⟨r47, e48⟩ : ∃ x, t.items[j]? = some x := ⟨_, List.getElem?_eq_getElem (by omega)⟩
    refine Ge (dx_idxF j rfl ty_slice_24 rfl rfl hit (by omega) (at_mapX e48)) rfl rfl ?_
    rintro u49 _ ⟨rfl, p50⟩
    refine Va (dx_loadPN rfl ty_agg_26_5 rfl p50 rfl) rfl rfl (Pu rfl (Pu rfl (Va (dx_sub (r := (mm : Int)) rfl rfl rfl (by rw [wrap64_id (by omega)]; omega)) rfl rfl ?_)))
    refine Ge (dx_cv rfl Try.func28 rfl rfl rfl (ih r47 mm W41 _ hL (hct r47 (List.mem_of_getElem? e48)) (by omega))) rfl rfl ?_
    rintro _ W52 ⟨⟨wz, rfl, hw1, hw2, hws⟩, b51⟩
    replace hnt := hnt.below b51
    replace hit := hit.below b51
    replace hct := hct.below b51
    replace k3 := k3.below b51
    replace hB := below_then hB b51
    replace hL := LL.below hL b51
    refine Va (dx_add (r := y + wz) rfl rfl rfl (wrap64_id (by omega))) rfl rfl (Pu rfl (Ni (hK46 (Rg (Pu rfl (Va (dx_add (r := (j : Int) + 1) rfl rfl rfl (wrap64_id (by omega))) rfl rfl (Pu rfl ?_)))))))
    refine Ni ?_
    exact hK40 (j + 1) (y + wz) ⟨(by omega), (by omega), (by omega), (fun hh => by obtain ⟨q1, q2⟩ := ht2 (by omega); exact ⟨q1, fun k a hk ha => by rcases Nat.lt_or_ge k j with hl | hl; exact q2 k a hl ha; obtain rfl : k = j := (by omega); rw [e48] at ha; cases ha; exact (hws (by omega)).le (by omega)⟩), hB, hL, hnt, hit, hct, k3⟩ (by omega) (by repeat first | exact trivial | exact And.intro rfl trivial | refine And.intro rfl ?_ | refine And.intro (congrArg (fun z : Int => some (Value.int .i64 z)) (by omega)) ?_)
   ·
    replace c45 := dF c45
    refine WC.exit ?_
    refine hK38 (Sq fun K53 hK53 => (Rg (Pu rfl (Pu rfl (Ni (hK53 ?_))))))
    exact WC.ret fun a_ ha_ => hQ (cv_ret1 rfl (.tmp rfl) ⟨_, rfl, by omega, by omega, fun hh => by obtain ⟨⟨q1, q2, q3⟩, q4⟩ := ht2 hh; have hje : j = t.items.length := (by omega); exact ⟨q1, q2, by omega, q3, fun c hc => by obtain ⟨k, hk⟩ := List.getElem?_of_mem hc; exact q4 k c (by have := (List.getElem?_eq_some_iff.1 hk).1; omega) hk⟩⟩ hB ha_)
  ·
   replace g44 := dF g44
   refine Of rfl (Of rfl (Of rfl (Pu rfl (Ni (hK43 (WC.condF rfl ?_))))))
   refine WC.exit ?_
   refine hK38 (Sq fun K54 hK54 => (Rg (Pu rfl (Pu rfl (Ni (hK54 ?_))))))
   exact WC.ret fun a_ ha_ => hQ (cv_ret1 rfl (.tmp rfl) ⟨_, rfl, by omega, by omega, fun hh => by obtain ⟨⟨q1, q2, q3⟩, q4⟩ := ht2 hh; have hje : j = t.items.length := (by omega); exact ⟨q1, q2, by omega, q3, fun c hc => by obtain ⟨k, hk⟩ := List.getElem?_of_mem hc; exact q4 k c (by have := (List.getElem?_eq_some_iff.1 hk).1; omega) hk⟩⟩ hB ha_)

theorem weigh_all : ∀ n, WeighAt n
 | 0 => fun t _ _ _ _ h => h.elim
 | n + 1 => fun t most w L hL ht hr => weigh_step n (weigh_all n) t most w L hL ht hr
section
variable {P : Program} {ops : Array Oper} {o : Oper} {N : Nat} {f : Fl} {w : World}
end
def noJ : Js := .mk 0 0 ⟨#[]⟩ [] []
def getJ (j : Js) (name : ByteArray) : Js × Bool := if j.kind = 6 ∧ 0 ≤ idxX (fun x => decide (name = x)) j.names 0 ∧ (idxX (fun x => decide (name = x)) j.names 0).toNat < j.items.length then ((j.items[(idxX (fun x => decide (name = x)) j.names 0).toNat]?).getD noJ, true) else (noJ, false)
theorem getT_er (t : Tr) (name : ByteArray) : ((getT t name).1.er, (getT t name).2) = getJ t.er name := by
  unfold getT getJ
  rw [er_kind, er_names, er_items, List.length_map]
  split
  · rename_i h
    rw [List.getElem?_map, List.getElem?_eq_getElem h.2.2]; rfl
  · unfold noT noJ; rw [Tr.er_mk]; rfl
theorem pa1 : parJ { data := #[123, 34, 98, 34, 58, 32, 91, 49, 44, 32, 45, 50, 93, 44, 32, 34, 97, 34, 58, 32, 34, 92, 117, 48, 48, 101, 57, 34, 125] } = .ok (.mk 6 0 ⟨#[]⟩ [⟨#[97]⟩, ⟨#[98]⟩] [.mk 4 0 ⟨#[195, 169]⟩ [] [], .mk 5 0 ⟨#[]⟩ [] [.mk 3 1 ⟨#[]⟩ [] [], .mk 3 (-2) ⟨#[]⟩ [] []]]) := by kernel_rfl
theorem pa2 : parJ { data := #[49, 46, 53] } = .error 2 := by kernel_rfl
theorem pa3 : parJ { data := #[123, 34, 97, 34, 58, 49, 44, 34, 97, 34, 58, 50, 125] } = .error 6 := by kernel_rfl
theorem alP1 (w : World) (L : List Nat) (hL : LL L w) : CV Try.prog 12 [.string { data := #[123, 34, 98, 34, 58, 32, 91, 49, 44, 32, 45, 50, 93, 44, 32, 34, 97, 34, 58, 32, 34, 92, 117, 48, 48, 101, 57, 34, 125] }] w fun v W => ∃ t, v = .tuple #[.agg #[.int .i64 t.kind, .int .i64 t.num, .string t.text, t.nv, t.iv], .int .i64 0] ∧ getJ t.er ⟨#[97]⟩ = (.mk 4 0 ⟨#[195, 169]⟩ [] [], true) ∧ deepJ 13 t.er = 2 ∧ RdT 13 L W t :=
  (jParse_v { data := #[123, 34, 98, 34, 58, 32, 91, 49, 44, 32, 45, 50, 93, 44, 32, 34, 97, 34, 58, 32, 34, 92, 117, 48, 48, 101, 57, 34, 125] } w L hL).mono fun v W _ h => by
    rcases h with ⟨t, rfl, h1, h2⟩ | ⟨e, rfl, h0, h1⟩
    · rw [pa1] at h1
      have h1 := (Except.ok.inj h1).symm
      exact ⟨t, rfl, by rw [h1]; kernel_rfl, by rw [h1]; kernel_rfl, h2⟩
    · rw [pa1] at h1; cases h1
theorem alP2 (w : World) (L : List Nat) (hL : LL L w) : CV Try.prog 12 [.string { data := #[49, 46, 53] }] w fun v W => v = .tuple #[.agg #[.int .i64 0, .int .i64 0, .string ⟨#[]⟩, .slice none 0 0, .slice none 0 0], .int .i64 2] :=
 (jParse_v { data := #[49, 46, 53] } w L hL).mono fun v W _ h => by
  rcases h with ⟨t, rfl, h1, h2⟩ | ⟨e, rfl, h0, h1⟩
  · rw [pa2] at h1; cases h1
  · rw [pa2] at h1; cases h1; rfl
theorem alP3 (w : World) (L : List Nat) (hL : LL L w) : CV Try.prog 12 [.string { data := #[123, 34, 97, 34, 58, 49, 44, 34, 97, 34, 58, 50, 125] }] w fun v W => v = .tuple #[.agg #[.int .i64 0, .int .i64 0, .string ⟨#[]⟩, .slice none 0 0, .slice none 0 0], .int .i64 6] :=
 (jParse_v { data := #[123, 34, 97, 34, 58, 49, 44, 34, 97, 34, 58, 50, 125] } w L hL).mono fun v W _ h => by
  rcases h with ⟨t, rfl, h1, h2⟩ | ⟨e, rfl, h0, h1⟩
  · rw [pa3] at h1; cases h1
  · rw [pa3] at h1; cases h1; rfl
theorem alG (t : Tr) (w : World) (L : List Nat) (hL : LL L w) (ht : RdT 13 L w t) (hg : getJ t.er ⟨#[97]⟩ = (.mk 4 0 ⟨#[195, 169]⟩ [] [], true)) : CV Try.prog 17 [.agg #[.int .i64 t.kind, .int .i64 t.num, .string t.text, t.nv, t.iv], .string ⟨#[97]⟩] w fun v W => ∃ a, v = .tuple #[.agg #[.int .i64 a.kind, .int .i64 a.num, .string a.text, a.nv, a.iv], .bool true] ∧ a.text = ⟨#[195, 169]⟩ ∧ RdT 13 L W a :=
 (jGet_v 12 t ⟨#[97]⟩ w L hL ht).mono fun v W hb h => by
  subst h
  have e := (getT_er t ⟨#[97]⟩).trans hg
  simp only [Prod.mk.injEq] at e
  refine ⟨(getT t ⟨#[97]⟩).1, by rw [e.2]; rfl, ?_, (getT_rd ht _).below hb⟩
  rw [← er_text, e.1]; rfl
set_option maxHeartbeats 1000000 in
theorem alive_v  (w : World) (L : List Nat) (hL : LL L w)  : CV Try.prog 11 [] w fun v W => v = .bool true := by
 refine cv_enter (N := 49) (f := []) Try.func11 rfl rfl rfl rfl fun Q hQ hE => ?_
 have hB := Below.refl w.heap.size w
 refine Sq fun K1 hK1 => (Rg (Pu rfl (Ni (hK1 (Sq fun K2 hK2 => (Rg ?_))))))
 refine Ge (dx_cv rfl Try.func12 rfl rfl rfl (alP1 w _ hL)) rfl rfl ?_
 rintro _ W4 ⟨⟨t, rfl, hgj, hdj, ht⟩, b3⟩
 replace hB := below_then hB b3
 replace hL := LL.below hL b3
 obtain ⟨hnt, hit, hct⟩ := ht
 replace hct : RdTs 12 (L) W4 t.items := hct
 refine Pu rfl (Pu rfl (Pu rfl ?_))
 refine Ge (dx_alloc rfl ty_zero_26 rfl) rfl rfl ?_
 rintro _ W5 ⟨rfl, k6, b7, z8⟩
 have l9 := hB.size
 replace hnt := hnt.more b7 (Nat.le_refl _)
 replace hit := hit.more b7 (Nat.le_refl _)
 replace hct := hct.more b7 (Nat.le_refl _)
 replace hB := below_then hB b7
 replace hL := LL.more hL z8
 refine WL.do (dx_store (cs' := [.int .i64 t.kind, .int .i64 t.num, .string t.text, t.nv, t.iv]) (vs := [.int .i64 t.kind, .int .i64 t.num, .string t.text, t.nv, t.iv]) rfl ty_size_26_5 rfl rfl rfl (oc_cons rfl (oc_cons rfl (oc_cons rfl (oc_cons hnt.one (oc_cons hit.one oc_nil))))) k6 rfl (Nat.le_of_ble_eq_true rfl) rfl) rfl ?_
 rintro _ W10 ⟨k12, o11⟩
 clear k6
 replace hnt := hnt.only o11 (.head _)
 replace hit := hit.only o11 (.head _)
 replace hct := hct.only o11 (.head _)
 replace hB := o11.below hB l9
 replace hL := LL.only hL o11
 refine Pu rfl (Ni (hK2 (Sq fun K13 hK13 => (Rg ?_))))
 refine Ge (dx_cv rfl Try.func12 rfl rfl rfl (alP2 W10 _ hL)) rfl rfl ?_
 rintro _ W15 ⟨rfl, b14⟩
 replace hnt := hnt.below b14
 replace hit := hit.below b14
 replace hct := hct.below b14
 replace k12 := k12.below b14
 replace hB := below_then hB b14
 replace hL := LL.below hL b14
 refine Pu rfl (Pu rfl (Pu rfl ?_))
 refine Ge (dx_alloc rfl ty_zero_26 rfl) rfl rfl ?_
 rintro _ W16 ⟨rfl, k17, b18, z19⟩
 have n20 : W4.heap.size ≠ W15.heap.size := Nat.ne_of_lt k12.lt
 have l21 := hB.size
 replace hnt := hnt.more b18 (Nat.le_refl _)
 replace hit := hit.more b18 (Nat.le_refl _)
 replace hct := hct.more b18 (Nat.le_refl _)
 replace k12 := k12.below b18
 replace hB := below_then hB b18
 replace hL := LL.more hL z19
 refine WL.do (dx_store (cs' := zV) (vs := zV) rfl ty_size_26_5 rfl rfl rfl (oc_cons rfl (oc_cons rfl (oc_cons rfl (oc_cons rfl (oc_cons rfl oc_nil))))) k17 rfl (Nat.le_of_ble_eq_true rfl) rfl) rfl ?_
 rintro _ W22 ⟨k24, o23⟩
 replace k12 := k12.other o23 n20
 clear k17
 replace hnt := hnt.only o23 (.head _)
 replace hit := hit.only o23 (.head _)
 replace hct := hct.only o23 (.head _)
 replace hB := o23.below hB l21
 replace hL := LL.only hL o23
 refine Pu rfl (Ni (hK13 (Sq fun K25 hK25 => (Rg ?_))))
 refine Ge (dx_cv rfl Try.func12 rfl rfl rfl (alP3 W22 _ hL)) rfl rfl ?_
 rintro _ W27 ⟨rfl, b26⟩
 replace hnt := hnt.below b26
 replace hit := hit.below b26
 replace hct := hct.below b26
 replace k12 := k12.below b26
 replace hB := below_then hB b26
 replace hL := LL.below hL b26
 refine Pu rfl (Pu rfl (Pu rfl ?_))
 refine Ge (dx_alloc rfl ty_zero_26 rfl) rfl rfl ?_
 rintro _ W28 ⟨rfl, k29, b30, z31⟩
 have n32 : W4.heap.size ≠ W27.heap.size := Nat.ne_of_lt k12.lt
 have l34 := hB.size
 replace hnt := hnt.more b30 (Nat.le_refl _)
 replace hit := hit.more b30 (Nat.le_refl _)
 replace hct := hct.more b30 (Nat.le_refl _)
 replace k12 := k12.below b30
 replace hB := below_then hB b30
 replace hL := LL.more hL z31
 refine WL.do (dx_store (cs' := zV) (vs := zV) rfl ty_size_26_5 rfl rfl rfl (oc_cons rfl (oc_cons rfl (oc_cons rfl (oc_cons rfl (oc_cons rfl oc_nil))))) k29 rfl (Nat.le_of_ble_eq_true rfl) rfl) rfl ?_
 rintro _ W35 ⟨k37, o36⟩
 replace k12 := k12.other o36 n32
 clear k29
 replace hnt := hnt.only o36 (.head _)
 replace hit := hit.only o36 (.head _)
 replace hct := hct.only o36 (.head _)
 replace hB := o36.below hB l34
 replace hL := LL.only hL o36
 refine Pu rfl (Ni (hK25 (Sq fun K38 hK38 => (Rg (Va (dx_loadN rfl ty_agg_26_5 rfl k12.range rfl) rfl rfl ?_)))))
 refine Ge (dx_cv rfl Try.func17 rfl rfl rfl (alG t W35 _ hL (show RdT (12 + 1) (W27.heap.size :: W15.heap.size :: W4.heap.size :: L) W35 t from ⟨hnt, hit, hct⟩) hgj)) rfl rfl ?_
 rintro _ W40 ⟨⟨a, rfl, htx, ha⟩, b39⟩
 replace hnt := hnt.below b39
 replace hit := hit.below b39
 replace hct := hct.below b39
 replace k12 := k12.below b39
 replace hB := below_then hB b39
 replace hL := LL.below hL b39
 obtain ⟨hna, hia, hca⟩ := ha
 replace hca : RdTs 12 (W27.heap.size :: W15.heap.size :: W4.heap.size :: L) W40 a.items := hca
 refine Pu rfl (Pu rfl (Pu rfl ?_))
 refine Ge (dx_alloc rfl ty_zero_26 rfl) rfl rfl ?_
 rintro _ W41 ⟨rfl, k42, b43, z44⟩
 have n45 : W4.heap.size ≠ W40.heap.size := Nat.ne_of_lt k12.lt
 have l48 := hB.size
 replace hnt := hnt.more b43 (Nat.le_refl _)
 replace hit := hit.more b43 (Nat.le_refl _)
 replace hct := hct.more b43 (Nat.le_refl _)
 replace hna := hna.more b43 (Nat.le_refl _)
 replace hia := hia.more b43 (Nat.le_refl _)
 replace k12 := k12.below b43
 replace hB := below_then hB b43
 replace hL := LL.more hL z44
 refine WL.do (dx_store (cs' := [.int .i64 a.kind, .int .i64 a.num, .string a.text, a.nv, a.iv]) (vs := [.int .i64 a.kind, .int .i64 a.num, .string a.text, a.nv, a.iv]) rfl ty_size_26_5 rfl rfl rfl (oc_cons rfl (oc_cons rfl (oc_cons rfl (oc_cons hna.one (oc_cons hia.one oc_nil))))) k42 rfl (Nat.le_of_ble_eq_true rfl) rfl) rfl ?_
 rintro _ W49 ⟨k51, o50⟩
 replace k12 := k12.other o50 n45
 clear k42
 replace hnt := hnt.only o50 (.head _)
 replace hit := hit.only o50 (.head _)
 replace hct := hct.only o50 (.head _)
 replace hB := o50.below hB l48
 replace hL := LL.only hL o50
 refine Pu rfl (Ni (hK38 (Sq fun K52 hK52 => (Rg (Pu rfl (Va (dx_eql rfl rfl rfl) rfl rfl (Pu rfl ?_)))))))
 refine Pu rfl (Va (dx_eql rfl rfl rfl) rfl rfl (Pu rfl (Pu rfl (Pu rfl (Va (dx_eql rfl rfl rfl) rfl rfl (Pu rfl (Pu rfl ?_)))))))
 refine Pu rfl (Pu rfl (Pu rfl (Va (dx_fld (o1 := 2) rfl ty_fld_26_2_2 rfl rfl) rfl rfl (Va (dx_load rfl ty_one_9 rfl (k51.cell (k := 2) rfl)) rfl rfl (Va (dv_T (dx_eqlT rfl rfl rfl) htx) rfl rfl (Pu rfl (Pu rfl ?_)))))))
 refine Va (dx_loadN rfl ty_agg_26_5 rfl k12.range rfl) rfl rfl ?_
 refine Ge (dx_cv rfl Try.func20 rfl rfl rfl (jDeep_v 12 t W49 _ hL (show RdT (12 + 1) (W40.heap.size :: W27.heap.size :: W15.heap.size :: W4.heap.size :: L) W49 t from ⟨hnt, hit, hct⟩))) rfl rfl ?_
 rintro _ W54 ⟨rfl, b53⟩
 replace hB := below_then hB b53
 refine Va (dv_T (dx_eql rfl rfl rfl) (by rw [hdj]; rfl)) rfl rfl (Pu rfl (Pu rfl (Ni (hK52 ?_))))
 exact WC.ret fun a_ ha_ => hQ (cv_ret1 rfl (.tmp rfl) rfl hB ha_)

theorem maxJ_min {f : Js → Nat} {n : Nat} : ∀ l : List Js, maxJ (fun j => min n (f j)) l = min n (maxJ f l)
 | [] => by simp [maxJ]
 | j :: l => by simp only [maxJ]; rw [maxJ_min l]; omega
theorem deep_min : ∀ (n : Nat) (j : Js), deepJ n j = min n (deepJ (n + 1) j)
  | 0, j => by simp [deepJ]
  | n + 1, j => by
    rw [deepJ, deepJ]
    split
    · have e : deepJ n = fun j => min n (deepJ (n + 1) j) := funext (deep_min n)
      rw [e, maxJ_min]; omega
    · simp
theorem maxJ_iff {f : Js → Nat} {n : Nat} : ∀ {l : List Js}, maxJ f l ≤ n ↔ ∀ j ∈ l, f j ≤ n
 | [] => by simp [maxJ]
 | j :: l => by rw [maxJ, Nat.max_le, maxJ_iff (l := l)]; simp
section
variable {P : Program} {ops : Array Oper} {md : Region.Mode}
end
abbrev SV := List (Option Tmp × Option Value)
section
variable {P : Program} {N : Nat} {sv : SV} {dl : List (List Nat)}
end
def vB : Value → Option Nat
 | .slice (some a) _ _ => some a.block
 | .pointer (some a) => some a.block
 | _ => none
theorem OwS.vB {s : Nat} {w : World} {u : Value} {rs : List (List Value)} {B : Nat} (h : OwS s w u rs B) : vB u = some B := by
 obtain ⟨h0, hr, cap, sp, rfl, _⟩ := h
 rfl
theorem NewW.lt {s b : Nat} {w : World} {u : Value} {rs : List (List Value)} (h : NewW s b rs u w) {B : Nat} (hB : Go.Proofs.Ytpinidlfcifeeaa.vB u = some B) : b ≤ B ∧ B < w.heap.size := by
 rcases h with ⟨rfl, _⟩ | ⟨C, h1, h2⟩
 · cases hB
 · rw [h2.vB] at hB; cases hB; exact ⟨h1, h2.lt⟩
theorem NewW.one {s b : Nat} {w : World} {u : Value} {rs : List (List Value)} (h : NewW s b rs u w) : u.oneCell' = true := by
 rcases h with ⟨rfl, _⟩ | ⟨C, h1, h2⟩
 · rfl
 · exact h2.one
def putJ (j : Js) (nm : ByteArray) (x : Js) : Js := if j.names[lbT nm j.names]? = some nm then .mk 6 0 ⟨#[]⟩ j.names (j.items.set (lbT nm j.names) x) else .mk 6 0 ⟨#[]⟩ (insA (lbT nm j.names) nm j.names) (insA (lbT nm j.names) x j.items)
set_option maxHeartbeats 1000000 in
theorem cloneNP_v  (w : World) (L : List Nat) (hL : LL L w)  : CV Try.prog 54 [.slice none 0 0] w fun v W => v = .slice none 0 0 := by
 refine cv_enter (N := 8) (f := [(0, .slice none 0 0)]) Try.func54 rfl rfl rfl rfl fun Q hQ hE => ?_
 have hB := Below.refl w.heap.size w
 refine WC.seq fun K1 hK1 => (WC.region (Pu rfl (WL.nil (hK1 (WC.seq fun K2 hK2 => (WC.seq fun K3 hK3 => (WC.region ?_)))))))
 refine Pu rfl (WL.val (dx_nilT rfl Try.underlying40 rfl) rfl rfl (WL.nil (hK3 (WC.condT rfl (WC.seq fun K4 hK4 => (WC.region (Pu rfl ?_)))))))
 refine WL.nil (hK4 ?_)
 exact WC.ret fun a_ ha_ => hQ (cv_ret1 rfl (.tmp rfl) rfl hB ha_)

set_option maxHeartbeats 1000000 in
theorem cloneEP_v (rs : List (List Value)) (sv : Value) (a : Addr) (n c : Nat) (w : World) (L : List Nat) (hL : LL L w) (h1 : RdF 6 L w sv rs)  (hs : sv = .slice (some a) n c) (hone : ∀ r ∈ rs, ∀ u ∈ r, u.oneCell' = true) (hsm : rs.length * 96 ≤ 140737488355328) : CV Try.prog 54 [sv] w fun v W => NewS 6 w.heap.size rs v W := by
 refine cv_enter (N := 8) (f := [(0, sv)]) Try.func54 rfl rfl rfl rfl fun Q hQ hE => ?_
 have hB := Below.refl w.heap.size w
 refine WC.seq fun K1 hK1 => (WC.region (Pu rfl (WL.nil (hK1 (WC.seq fun K2 hK2 => (WC.seq fun K3 hK3 => (WC.region ?_)))))))
 refine Pu rfl (WL.val (dx_nilS rfl Try.underlying40 rfl hs) rfl rfl (WL.nil (hK3 (WC.condF rfl (WC.skip (hK2 (WC.seq fun K4 hK4 => ?_)))))))
 refine WC.region ?_
 refine WL.get (dx_lit0E rfl ty_ap_40 (by decide)) rfl rfl ?_
 rintro u5 W6 ⟨b7, e8⟩
 replace h1 := h1.below b7
 replace hB := below_then hB b7
 refine Pu rfl ?_
 refine WL.get (dx_apN rfl ty_ap_40 rfl rfl e8 h1 hone (by unfold maxLen; omega) (by omega) hB.size) rfl rfl ?_
 rintro u9 W10 ⟨b11, e12⟩
 replace hB := below_then hB b11
 refine Pu rfl (WL.nil (hK4 ?_))
 exact WC.ret fun a_ ha_ => hQ (cv_ret1 rfl (.tmp rfl) e12 hB ha_)

theorem cloneSP_v (rs : List (List Value)) (sv : Value) (w : World) (L : List Nat) (hL : LL L w) (h1 : RdF 6 L w sv rs) (hone : ∀ r ∈ rs, ∀ u ∈ r, u.oneCell' = true) (hsm : rs.length * 96 ≤ 140737488355328) : CV Try.prog 54 [sv] w fun v W => NewW 6 w.heap.size rs v W := by
 rcases h1.nil_or with ⟨rfl, rfl⟩ | ⟨a, n, c, hs⟩
 · exact (cloneNP_v w L hL).mono fun v W _ h => .inl ⟨h, rfl, by decide⟩
 · exact (cloneEP_v rs sv a n c w L hL h1 hs hone hsm).mono fun v W _ h => NewS.toW' h
def cmpP (p q : ByteArray × Tr) : Int := if sless p.1 q.1 = true then -1 else if sless q.1 p.1 = true then 1 else 0
theorem run_gtrT (P : Program) (w : World) (t : TypeId) (m n : ByteArray) : (binOp .gtr t (.string m) (.string n)).run P w = .ok (.bool (!sless m n && !decide (m = n))) w := by
 simp [binOp, Op.stringOp, sless, Sem.run_pure, str_beq]
open Go.Sort in
set_option maxHeartbeats 1000000 in
theorem make1_grow (a b t1 t2 : ByteArray) (k1 k2 m1 m2 : Int) (n1 n2 i1 i2 : Value) (h1 : n1.oneCell' = true) (h2 : i1.oneCell' = true) (h3 : n2.oneCell' = true) (h4 : i2.oneCell' = true) (W : World) : Calls Try.prog 56 #[.agg #[.string a, .int .i64 k1, .int .i64 m1, .string t1, n1, i1], .agg #[.string b, .int .i64 k2, .int .i64 m2, .string t2, n2, i2]] W fun e w' => e = .returned (.int .i64 (if sless a b = true then -1 else if sless b a = true then 1 else 0)) ∧ ∃ q os', w' = grow (W.drewN q) os' := by
  go_enter Try.func56, Try.ntmps56
  have tri := sless_tri a b
  have fin : ∀ o1 o2 : Obj, ∃ (q : Nat) (os' : Array Obj), (W.alloc o1).alloc o2 = grow (W.drewN q) os' := fun o1 o2 => ⟨0, _, by rw [alloc_eq_grow, alloc_eq_grow, grow_grow]; rfl⟩
  go_wp2
  · go_ret
    exact ⟨rfl, fin _ _⟩
  · rw [run_gtrT]
    go_wp2
    all_goals go_ret
    all_goals first | exact ⟨rfl, fin _ _⟩ | (exfalso; simp_all; done) | (exfalso; have e : Op.bytesLess a.toList b.toList = sless a b := rfl; simp_all; done)
theorem NewW.rdL {s b : Nat} {w w0 : World} {u : Value} {rs : List (List Value)} {L : List Nat} (h : NewW s b rs u w) (hL : LL L w0) (hb : w0.heap.size ≤ b) : RdF s L w u rs := by
 rcases h with ⟨rfl, rfl, h0⟩ | ⟨B, h1, h2⟩
 · exact RdF.nil h0
 · exact h2.rd (hL.notin (Nat.le_trans hb h1))
end Go.Proofs.Ytpinidlfcifeeaa
namespace Go.Proofs
open Go.Shelf
end Go.Proofs
namespace Go.Proofs.Ytpinidlfcifeeaa
open Go.RowKit
set_option linter.unusedVariables false
set_option linter.unusedSimpArgs false
set_option maxRecDepth 8000
set_option maxHeartbeats 2000000

theorem MembI.le {n b : Nat} {L L' : List Nat} {nv iv : Value} {ns : List ByteArray} {ts : List Tr} {W : World} (h : MembI n b L nv ns iv ts W) (hl : ∀ x, x ∈ L' → x ∈ L) : MembI n b L' nv ns iv ts W := by
  obtain ⟨h0, h | ⟨Bn, Bi, h1, h2, h3, h4, h5, h6⟩⟩ := h
  · exact ⟨fun x hx => h0 x (hl x hx), .inl h⟩
  · exact ⟨fun x hx => h0 x (hl x hx), .inr ⟨Bn, Bi, h1, h2, h3, h4, h5, fun c hc => (h6 c hc).less fun x hx => by
      simp only [List.mem_cons] at hx ⊢
      rcases hx with h_ | h_ | h_
      · exact .inl h_
      · exact .inr (.inl h_)
      · exact .inr (.inr (hl x h_))⟩⟩
def AgL (w1 : World) (L0 L : List Nat) (w : World) : Prop := (∀ x ∈ L, x < w1.heap.size → x ∈ L0) ∧ Agree L0 w1 w
theorem Agree.trans' {L : List Nat} {w w' w'' : World} (h : Agree L w w') (k : Agree L w' w'') : Agree L w w'' := ⟨Nat.le_trans h.1 k.1, fun i hi hlt => (k.2 i hi (Nat.lt_of_lt_of_le hlt h.1)).trans (h.2 i hi hlt)⟩
section
variable {w1 w w' : World} {L0 L : List Nat}
theorem AgL.below (h : AgL w1 L0 L w) (hb : Below w.heap.size w w') : AgL w1 L0 L w' := ⟨h.1, h.2.trans' (.of_below hb)⟩
theorem AgL.more (h : AgL w1 L0 L w) (hb : Below w.heap.size w w') {B : Nat} (hB : w.heap.size ≤ B) : AgL w1 L0 (B :: L) w' := ⟨fun x hx hlt => by
 rcases List.mem_cons.1 hx with rfl | hx
 · exact absurd hlt (Nat.not_lt.2 (Nat.le_trans h.2.1 hB))
 · exact h.1 x hx hlt, h.2.trans' (.of_below hb)⟩
theorem AgL.only (h : AgL w1 L0 L w) {C : Nat} (ho : Only C w w') (hC : C ∈ L) : AgL w1 L0 L w' := ⟨h.1, ⟨by rw [ho.size]; exact h.2.1, fun k hk hlt => (ho.block k (fun e => hk (h.1 k (e ▸ hC) hlt))).trans (h.2.2 k hk hlt)⟩⟩
theorem AgL.grow' (h : AgL w1 L0 L w) {B B' : Nat} (g : GrowB B B' w w') (hB : B ∈ L) : AgL w1 L0 (B' :: L) w' := ⟨fun x hx hlt => by
  rcases List.mem_cons.1 hx with rfl | hx
  · rcases g.new with rfl | hn
    · exact h.1 _ hB hlt
    · exact absurd hlt (Nat.not_lt.2 (Nat.le_trans h.2.1 hn))
  · exact h.1 x hx hlt, ⟨Nat.le_trans h.2.1 g.size, fun k hk hlt => (g.block k (Nat.lt_of_lt_of_le hlt h.2.1) (fun e => hk (h.1 k (e ▸ hB) hlt))).trans (h.2.2 k hk hlt)⟩⟩
theorem AgL.less (h : AgL w1 L0 L w) {L' : List Nat} (hl : ∀ x, x ∈ L' → x ∈ L) : AgL w1 L0 L' w := ⟨fun x hx => h.1 x (hl x hx), h.2⟩
theorem AgL.add (h : AgL w1 L0 L w) {B : Nat} (hB : w1.heap.size ≤ B) : AgL w1 L0 (B :: L) w := ⟨fun x hx hlt => by
 rcases List.mem_cons.1 hx with rfl | hx
 · exact absurd hlt (Nat.not_lt.2 hB)
 · exact h.1 x hx hlt, h.2⟩
theorem AgL.rd {s : Nat} {v : Value} {rs : List (List Value)} (h : AgL w1 L0 L w) (k : RdF s L0 w1 v rs) : RdF s L w v rs := by
 have k2 := k.agree h.2
 obtain ⟨h0, hl, a, cap, rfl, c1, c2, c3, c4⟩ := k2
 refine ⟨h0, hl, a, cap, rfl, c1, c2, c3, fun hn => ?_⟩
 obtain ⟨X, q, e, hX, hr⟩ := c4 hn
 exact ⟨X, q, e, fun hx => hX (h.1 X hx (rdf_lt k e hn)), hr⟩
theorem AgL.rt (h : AgL w1 L0 L w) : ∀ {n : Nat} {t : Tr}, RdT n L0 w1 t → RdT n L w t
 | 0, _, k => k
 | _ + 1, _, k => ⟨h.rd k.1, h.rd k.2.1, fun c hc => h.rt (k.2.2 c hc)⟩
end
def SzJ (m : Nat) : Nat → Js → Prop
 | 0, _ => False
 | n + 1, j => j.text.size ≤ m ∧ j.names.length ≤ m ∧ j.items.length ≤ m ∧ (∀ s ∈ j.names, s.size ≤ m) ∧ ∀ c ∈ j.items, SzJ m n c
theorem SzJ.le {m m' : Nat} (hm : m ≤ m') : ∀ {n : Nat} {j : Js}, SzJ m n j → SzJ m' n j
 | 0, _, h => h
 | _ + 1, _, h => ⟨Nat.le_trans h.1 hm, Nat.le_trans h.2.1 hm, Nat.le_trans h.2.2.1 hm, fun s hs => Nat.le_trans (h.2.2.2.1 s hs) hm, fun c hc => (h.2.2.2.2 c hc).le hm⟩
theorem SzJ.up {m : Nat} : ∀ {n : Nat} {j : Js}, SzJ m n j → SzJ m (n + 1) j
 | 0, _, h => h.elim
 | _ + 1, _, h => ⟨h.1, h.2.1, h.2.2.1, h.2.2.2.1, fun c hc => (h.2.2.2.2 c hc).up⟩
theorem alikeE_v (n : Nat) (a b : Tr) (w : World) (L : List Nat) (hL : LL L w) (h1 : RdT (n + 1) L w a) (h2 : RdT (n + 1) L w b) (h : a.er = b.er) : CV Try.prog 14 [.agg #[.int .i64 a.kind, .int .i64 a.num, .string a.text, a.nv, a.iv], .agg #[.int .i64 b.kind, .int .i64 b.num, .string b.text, b.nv, b.iv]] w fun v W => v = .bool true := by
 have e := alike_v n a b w L hL h1 h2
 rw [eqJ_t h] at e
 exact e
section
variable {P : Program} {N : Nat} {Q : Exit → Act → World → Prop} {f : Fl} {w : World}
end
theorem take_add {α : Type} {l : List α} {k : Nat} {x : α} (h : l[k]? = some x) : l.take k ++ [x] = l.take (k + 1) := by rw [List.take_add_one, h]; rfl
def putN (ns : List ByteArray) (nm : ByteArray) : List ByteArray := if ns[lbT nm ns]? = some nm then ns else insA (lbT nm ns) nm ns
def putT {α : Type} (ns : List ByteArray) (nm : ByteArray) (ts : List α) (x : α) : List α := if ns[lbT nm ns]? = some nm then ts.set (lbT nm ns) x else insA (lbT nm ns) x ts
theorem putJ_eq (j : Js) (nm : ByteArray) (x : Js) : putJ j nm x = .mk 6 0 ⟨#[]⟩ (putN j.names nm) (putT j.names nm j.items x) := by
 unfold putJ putN putT
 split <;> rfl
section
variable {α : Type} {ns : List ByteArray} {nm b : ByteArray} {ts : List α} {x t : α} {i : Nat}
end
abbrev NJ := ByteArray × Js
def foldZ : List NJ → List NJ → Option (List NJ)
 | [], zs => some zs
 | p :: l, zs => if (zs.map Prod.fst)[lbT p.1 (zs.map Prod.fst)]? = some p.1 then none else foldZ l (insA (lbT p.1 (zs.map Prod.fst)) p zs)
def makeJ (ps : List NJ) : Except Int Js :=
 if ps.all (fun p => rightJ upB 12 p.2 && upB p.1) = true then
  match foldZ ps [] with
  | none => .error 6
  | some zs => if ps.any (fun p => decide (12 ≤ deepJ 13 p.2)) = true then .error 4 else .ok (.mk 6 0 ⟨#[]⟩ (zs.map Prod.fst) (zs.map Prod.snd))
 else .error 1
theorem map_insA {α β : Type} (f : α → β) (i : Nat) (x : α) (l : List α) : (insA i x l).map f = insA i (f x) (l.map f) := by
 unfold insA
 simp [List.map_take, List.map_drop]
theorem foldZ_spec : ∀ (ps zs : List NJ), Rises (zs.map Prod.fst) → (foldZ ps zs = none ∧ ¬ ((ps.map Prod.fst).Nodup ∧ ∀ p ∈ ps, p.1 ∉ zs.map Prod.fst)) ∨ (∃ ys, foldZ ps zs = some ys ∧ (ps.map Prod.fst).Nodup ∧ (∀ p ∈ ps, p.1 ∉ zs.map Prod.fst) ∧ Rises (ys.map Prod.fst) ∧ ∀ x, x ∈ ys ↔ x ∈ zs ∨ x ∈ ps)
  | [], zs, hr => .inr ⟨zs, rfl, List.nodup_nil, (fun p hp => by cases hp), hr, fun x => by simp⟩
  | p :: l, zs, hr => by
    rw [foldZ]
    by_cases h : (zs.map Prod.fst)[lbT p.1 (zs.map Prod.fst)]? = some p.1
    · rw [if_pos h]
      exact .inl ⟨rfl, fun ⟨_, h2⟩ => h2 p (.head _) (List.mem_of_getElem? h)⟩
    · rw [if_neg h]
      have hn : p.1 ∉ zs.map Prod.fst := fun hm => h ((mem_lb hr).1 hm)
      have hr2 : Rises ((insA (lbT p.1 (zs.map Prod.fst)) p zs).map Prod.fst) := by rw [map_insA]; exact rises_ins hr h
      have hmem : ∀ a, a ∈ (insA (lbT p.1 (zs.map Prod.fst)) p zs).map Prod.fst ↔ a = p.1 ∨ a ∈ zs.map Prod.fst := fun a => by rw [map_insA]; exact mem_insA
      rcases foldZ_spec l _ hr2 with ⟨e, hx⟩ | ⟨ys, e, h1, h2, h3, h4⟩
      · refine .inl ⟨e, fun ⟨q1, q2⟩ => hx ?_⟩
        rw [List.map_cons, List.nodup_cons] at q1
        refine ⟨q1.2, fun q hq hm => ?_⟩
        rcases (hmem q.1).1 hm with he | he
        · exact q1.1 (he ▸ List.mem_map.2 ⟨q, hq, rfl⟩)
        · exact q2 q (.tail _ hq) he
      · refine .inr ⟨ys, e, ?_, ?_, h3, fun x => ?_⟩
        · rw [List.map_cons, List.nodup_cons]
          refine ⟨fun hm => ?_, h1⟩
          obtain ⟨q, hq, he⟩ := List.mem_map.1 hm
          exact h2 q hq ((hmem q.1).2 (.inl he))
        · intro q hq
          rcases List.mem_cons.1 hq with rfl | hq
          · exact hn
          · exact fun hm => h2 q hq ((hmem q.1).2 (.inr hm))
        · rw [h4 x, mem_insA, List.mem_cons]
          constructor
          · rintro ((h | h) | h)
            · exact .inr (.inl h)
            · exact .inl h
            · exact .inr (.inr h)
          · rintro (h | h | h)
            · exact .inl (.inr h)
            · exact .inl (.inl h)
            · exact .inr h
theorem rises_ext : ∀ (ys zs : List NJ), Rises (ys.map Prod.fst) → Rises (zs.map Prod.fst) → (∀ x, x ∈ ys ↔ x ∈ zs) → ys = zs
  | [], [], _, _, _ => rfl
  | [], z :: zs, _, _, h => absurd ((h z).2 (.head _)) (by simp)
  | y :: ys, [], _, _, h => absurd ((h y).1 (.head _)) (by simp)
  | y :: ys, z :: zs, h1, h2, h => by
    have a1 := List.pairwise_cons.1 h1
    have a2 := List.pairwise_cons.1 h2
    have e : y = z := by
      rcases List.mem_cons.1 ((h y).1 (.head _)) with e | e
      · exact e
      · rcases List.mem_cons.1 ((h z).2 (.head _)) with e2 | e2
        · exact e2.symm
        · have l1 := a2.1 y.1 (List.mem_map.2 ⟨y, e, rfl⟩)
          have l2 := a1.1 z.1 (List.mem_map.2 ⟨z, e2, rfl⟩)
          have := sless_trans _ _ _ l1 l2
          rw [sless_irrefl] at this
          cases this
    subst e
    have nd : ∀ (l : List NJ), (∀ a ∈ l.map Prod.fst, sless y.1 a = true) → y ∉ l := fun l hl hm => by
      have := hl y.1 (List.mem_map.2 ⟨y, hm, rfl⟩)
      rw [sless_irrefl] at this
      cases this
    rw [rises_ext ys zs a1.2 a2.2 fun x => ?_]
    constructor
    · intro hx
      rcases List.mem_cons.1 ((h x).1 (.tail _ hx)) with rfl | hx2
      · exact absurd hx (nd ys a1.1)
      · exact hx2
    · intro hx
      rcases List.mem_cons.1 ((h x).2 (.tail _ hx)) with rfl | hx2
      · exact absurd hx (nd zs a2.1)
      · exact hx2
theorem makeJ_perm {ps qs : List NJ} (h : ps.Perm qs) : makeJ ps = makeJ qs := by
 have e1 : ps.all (fun p => rightJ upB 12 p.2 && upB p.1) = qs.all (fun p => rightJ upB 12 p.2 && upB p.1) := by
  rw [Bool.eq_iff_iff, List.all_eq_true, List.all_eq_true]
  exact ⟨fun k x hx => k x (h.mem_iff.2 hx), fun k x hx => k x (h.mem_iff.1 hx)⟩
 have e2 : ps.any (fun p => decide (12 ≤ deepJ 13 p.2)) = qs.any (fun p => decide (12 ≤ deepJ 13 p.2)) := by
  rw [Bool.eq_iff_iff, List.any_eq_true, List.any_eq_true]
  exact ⟨fun ⟨x, hx, k⟩ => ⟨x, h.mem_iff.1 hx, k⟩, fun ⟨x, hx, k⟩ => ⟨x, h.mem_iff.2 hx, k⟩⟩
 have e3 : foldZ ps [] = foldZ qs [] := by
  have hn := (h.map Prod.fst).nodup_iff
  rcases foldZ_spec ps [] List.Pairwise.nil with ⟨a, b⟩ | ⟨ys, a, b1, b2, b3, b4⟩ <;> rcases foldZ_spec qs [] List.Pairwise.nil with ⟨c, d⟩ | ⟨zs, c, d1, d2, d3, d4⟩
  · rw [a, c]
  · exact absurd ⟨hn.2 d1, fun p hp => by simp⟩ b
  · exact absurd ⟨hn.1 b1, fun p hp => by simp⟩ d
  · rw [a, c, rises_ext ys zs b3 d3 fun x => by rw [b4, d4, h.mem_iff]]
 unfold makeJ
 rw [e1, e2, e3]
theorem foldZ_rises {ps : List NJ} (h : Rises (ps.map Prod.fst)) : foldZ ps [] = some ps := by
 have hnd : (ps.map Prod.fst).Nodup := h.imp fun hab e => by rw [e, sless_irrefl] at hab; cases hab
 rcases foldZ_spec ps [] List.Pairwise.nil with ⟨a, b⟩ | ⟨ys, a, b1, b2, b3, b4⟩
 · exact absurd ⟨hnd, fun p hp => by simp⟩ b
 · rw [a, rises_ext ys ps b3 h fun x => by rw [b4]; simp]
theorem foldZ_twice {ps : List NJ} (h : ¬ (ps.map Prod.fst).Nodup) : foldZ ps [] = none := by
 rcases foldZ_spec ps [] List.Pairwise.nil with ⟨a, b⟩ | ⟨ys, a, b1, b2, b3, b4⟩
 · exact a
 · exact absurd b1 h
section
variable {P : Program} {ops : Array Oper} {o : Oper} {N : Nat} {f : Fl} {w : World}
end

section
variable {s : ByteArray} {k y : Nat} {r q x : Int}
end
theorem row_one {R : List (List Value)} {i : Nat} {r : List Value} (h : R[i]? = some r) : (R.drop i).take (i + 1 - i) = [r] := by
 obtain ⟨hl, he⟩ := List.getElem?_eq_some_iff.1 h
 rw [List.drop_eq_getElem_cons hl, he, show i + 1 - i = 1 by omega]
 rfl
theorem lit_row {sp : List (List Value)} {i : Nat} {d : Int} (h : ([34, 92, 47, 8, 12, 10, 13, 9] : List Int)[i]? = some d) : ((([34, 92, 47, 8, 12, 10, 13, 9] : List Int).map fun n => [Value.int .u8 n]) ++ sp)[i]? = some (e8 d) := by
 have hl := (List.getElem?_eq_some_iff.1 h).1
 rw [List.getElem?_append_left (by rw [List.length_map]; exact hl), List.getElem?_map, h]
 rfl
abbrev lit8 : List (List Value) := ([34, 92, 47, 8, 12, 10, 13, 9] : List Int).map fun n => [Value.int .u8 n]
def litR (w : World) (B c : Nat) : Prop := ∃ sp, c = (lit8 ++ sp).length ∧ RwB 1 w B (lit8 ++ sp)
theorem litR.below {w w' : World} {B c : Nat} (h : litR w B c) (hb : Below w.heap.size w w') : litR w' B c := by obtain ⟨sp, e, h⟩ := h; exact ⟨sp, e, h.below hb⟩
theorem litR.len {w : World} {B c : Nat} (h : litR w B c) : 8 ≤ c := by obtain ⟨sp, rfl, h⟩ := h; rw [List.length_append]; exact Nat.le_add_right _ _
theorem litR.row {w : World} {B c i : Nat} {d : Int} (h : litR w B c) (hi : i < 8) (hd : ([34, 92, 47, 8, 12, 10, 13, 9] : List Int)[i]? = some d) : RdF 1 [] w (.slice (some ⟨B, offV c i 0 1, none⟩) (i + 1 - i) (c - i)) ([d].map e8) := by
 have hc := h.len
 obtain ⟨sp, rfl, h⟩ := h
 have hp := h.part (L := []) (by simp) (lo := i) (n := i + 1 - i) (c := (lit8 ++ sp).length - i) (o1 := offV (lit8 ++ sp).length i 0 1) (fun _ => by rw [offV_in (n := 1) (by decide) (by omega)]; omega) (by omega) (by omega)
 rw [row_one (lit_row hd)] at hp
 exact hp
section
variable {s wd : ByteArray} {dp k : Nat} {rl ro : Except Int (Js × Nat)}
end
section
variable {s : ByteArray} {vs : Nat → Except Int (Js × Nat)} {k k' : Nat} {e : Int} {ts : List Js} {st : StO}
end
abbrev tNil (k : Int) : Tr := .mk k 0 ⟨#[]⟩ (.slice none 0 0) [] (.slice none 0 0) []
theorem tNil_rd (k : Int) (m : Nat) (L : List Nat) (w : World) : RdT (m + 1) L w (tNil k) := ⟨RdF.nil (by decide), RdF.nil (by decide), fun c hc => by cases hc⟩
def ObT (t : Tr) : Prop := t.er = .mk 6 0 ⟨#[]⟩ t.names (t.items.map Tr.er) ∧ Rises t.names ∧ t.names.length = t.items.length
theorem ObT.kind {t : Tr} (h : ObT t) : t.kind = 6 := by rw [← er_kind, h.1]; rfl
theorem ObT.put {t x u : Tr} (h : ObT t) {nm : ByteArray} (hn : ¬ t.names[lbT nm t.names]? = some nm) (hu : u.er = putJ t.er nm x.er) : ObT u ∧ u.names = insA (lbT nm t.names) nm t.names ∧ u.items.map Tr.er = insA (lbT nm t.names) x.er (t.items.map Tr.er) ∧ u.names.length = t.names.length + 1 := by
  have hle := lbT_le nm t.names
  rw [h.1, putJ_eq] at hu
  have e1 : u.names = insA (lbT nm t.names) nm t.names := by
    rw [← er_names, hu]
    show putN t.names nm = _
    unfold putN; rw [if_neg hn]
  have e2 : u.items.map Tr.er = insA (lbT nm t.names) x.er (t.items.map Tr.er) := by
    rw [← er_items, hu]
    show putT t.names nm (t.items.map Tr.er) x.er = _
    unfold putT; rw [if_neg hn]
  have l1 : u.names.length = t.names.length + 1 := by rw [e1, insA_len hle]
  refine ⟨⟨?_, by rw [e1]; exact rises_ins h.2.1 hn, ?_⟩, e1, e2, l1⟩
  · rw [hu, e1, e2]
    show Js.mk 6 0 ⟨#[]⟩ (putN t.names nm) (putT t.names nm (t.items.map Tr.er) x.er) = _
    unfold putN putT; rw [if_neg hn, if_neg hn]
  · have := congrArg List.length e2
    rw [List.length_map, insA_len (by rw [List.length_map, ← h.2.2]; exact hle), List.length_map] at this
    rw [l1, this, h.2.2]
abbrev PT := ByteArray × Tr
abbrev encP (p : PT) : List Value := .string p.1 :: encT p.2
abbrev erP (p : PT) : NJ := (p.1, p.2.er)
def okP (p : PT) : Bool := rightJ upB 12 p.2.er && upB p.1
section
variable {ps : List PT} {i : Nat} {r : PT} {zs : List NJ}
theorem make_1 (h : ps[i]? = some r) (hb : okP r = false) : makeJ (ps.map erP) = .error 1 := by
 unfold makeJ
 rw [if_neg fun ha => by have := List.all_eq_true.1 ha (erP r) (List.mem_map.2 ⟨r, List.mem_of_getElem? h, rfl⟩); unfold okP at hb; rw [this] at hb; cases hb]
theorem all_ok (h : ∀ j p, j < ps.length → ps[j]? = some p → okP p = true) : (ps.map erP).all (fun p => rightJ upB 12 p.2 && upB p.1) = true := by
 rw [List.all_eq_true]
 intro x hx
 obtain ⟨p, hp, rfl⟩ := List.mem_map.1 hx
 obtain ⟨j, hj⟩ := List.mem_iff_getElem?.1 hp
 exact h j p (List.getElem?_eq_some_iff.1 hj).1 hj
theorem make_6 (h : ∀ j p, j < ps.length → ps[j]? = some p → okP p = true) (hf : foldZ (ps.map erP) [] = none) : makeJ (ps.map erP) = .error 6 := by
 unfold makeJ; rw [if_pos (all_ok h), hf]
theorem make_4 (h : ∀ j p, j < ps.length → ps[j]? = some p → okP p = true) (hf : foldZ (ps.map erP) [] = some zs) (hr : ps[i]? = some r) (hd : 12 ≤ deepJ 13 r.2.er) : makeJ (ps.map erP) = .error 4 := by
 unfold makeJ; rw [if_pos (all_ok h), hf]; dsimp only
 rw [if_pos (List.any_eq_true.2 ⟨erP r, List.mem_map.2 ⟨r, List.mem_of_getElem? hr, rfl⟩, decide_eq_true hd⟩)]
theorem make_k (h : ∀ j p, j < ps.length → ps[j]? = some p → okP p = true) (hf : foldZ (ps.map erP) [] = some zs) (hd : ∀ j p, j < ps.length → ps[j]? = some p → ¬ 12 ≤ deepJ 13 p.2.er) : makeJ (ps.map erP) = .ok (.mk 6 0 ⟨#[]⟩ (zs.map Prod.fst) (zs.map Prod.snd)) := by
 unfold makeJ; rw [if_pos (all_ok h), hf]; dsimp only
 rw [if_neg fun ha => by
  obtain ⟨x, hx, hx2⟩ := List.any_eq_true.1 ha
  obtain ⟨p, hp, rfl⟩ := List.mem_map.1 hx
  obtain ⟨j, hj⟩ := List.mem_iff_getElem?.1 hp
  exact hd j p (List.getElem?_eq_some_iff.1 hj).1 hj (of_decide_eq_true hx2)]
end
end Go.Proofs.Ytpinidlfcifeeaa
namespace Go.Proofs.Ytpinidlfcifeeaa
open Go.RowKit Go.Sort Go.Shelf Go.Lib
set_option linter.unusedVariables false
section
variable {α : Type} [Inhabited α]
theorem flatK_eq (enc : α → List Value) (k : Nat) (h0 : 0 < k) (hk : ∀ x, (enc x).length = k) (d : Array α) : (flatK enc k d).toList = (d.toList.map enc).flatten := by
 have hr : ∀ r ∈ d.toList.map enc, r.length = k := fun r hr => by obtain ⟨x, _, rfl⟩ := List.mem_map.1 hr; exact hk x
 have hl : (d.toList.map enc).flatten.length = d.size * k := by rw [flat_len hr, List.length_map]; rfl
 refine List.ext_getElem (by rw [Array.length_toList, size_flatK, hl]) fun t h1 h2 => ?_
 rw [hl] at h2
 have hq : t / k < d.size := (Nat.div_lt_iff_lt_mul h0).2 h2
 have hm : t % k < k := Nat.mod_lt _ h0
 have ht : t / k * k + t % k = t := Nat.div_add_mod' t k
 have e1 : (flatK enc k d)[t]! = (enc d[t / k]!)[t % k]! := get_flatK enc k d t h2
 have e2 := flat_row hr (i := t / k) (r := enc d[t / k]!) (by rw [List.getElem?_map, Array.getElem?_toList, Array.getElem?_eq_getElem hq, getElem!_pos d _ hq]; rfl)
 rw [Array.getElem_toList, ← getElem!_pos _ t (by rw [size_flatK]; exact h2), e1, getElem!_pos _ _ (by rw [hk]; exact hm)]
 have e3 : ((d.toList.map enc).flatten)[t]? = some ((enc d[t / k]!)[t % k]'(by rw [hk]; exact hm)) := by
  have : (((d.toList.map enc).flatten.drop (t / k * k)).take k)[t % k]? = (enc d[t / k]!)[t % k]? := by rw [e2]
  rw [List.getElem?_take, if_pos hm, List.getElem?_drop, ht] at this
  rw [this, List.getElem?_eq_getElem]
 exact ((List.getElem?_eq_some_iff.1 e3).2).symm
theorem OwS.holdsK {k : Nat} {w : World} {v : Value} {B : Nat} {enc : α → List Value} {d : Array α} (hk : ∀ x, (enc x).length = k) (h : OwS k w v (d.toList.map enc) B) : ∃ cap cur t, v = .slice (some ⟨B, 0, none⟩) d.size cap ∧ d.size ≤ cap ∧ cap ≤ maxLen ∧ w.heap[B]? = some (.cells cur t (0, 0)) ∧ cur.size = cap * k ∧ HoldsK enc k w B 0 d := by
  obtain ⟨h0, hr, cap, sp, rfl, h1, h2, h3, t, hb⟩ := h
  have hfl : (d.toList.map enc).flatten.length = d.size * k := by rw [flat_len hr, List.length_map]; rfl
  simp only [List.length_map, Array.length_toList] at h1 h3
  have hle : d.size * k ≤ cap * k := Nat.mul_le_mul_right _ h1
  refine ⟨cap, _, t, by simp, h1, h2, hb, ?_, fun j hj => ?_⟩
  · simp [hfl, h3, Nat.sub_mul]; omega
  · rw [size_flatK] at hj
    refine ⟨?_, by simp [World.frozen?, hb]⟩
    refine (Blk.range ⟨t, hb⟩) j _ ?_
    rw [List.getElem?_append_left (by rw [hfl]; exact hj), ← flatK_eq enc k h0 hk, Array.getElem?_toList, getElem!_pos _ j (by rw [size_flatK]; exact hj), Array.getElem?_eq_getElem]
    rfl
theorem putCells_id (F c : Array Value) (h : F.size ≤ c.size) : putCells id 0 F c = (F.toList ++ c.toList.drop F.size).toArray := by
  apply Array.ext
  · simp [putCells]; omega
  · intro i h1 h2
    have hi : i < c.size := by simpa [putCells] using h1
    simp only [putCells, Array.getElem_mapIdx, List.getElem_toArray, List.getElem_append, Array.length_toList]
    by_cases hf : i < F.size
    · rw [if_pos ⟨Nat.zero_le _, by omega⟩, dif_pos hf, Nat.sub_zero, getElem!_pos F i hf]; rfl
    · rw [if_neg (by omega), dif_neg hf, List.getElem_drop, Array.getElem_toList]
      congr 1; omega
theorem heap_sortK {w : World} {B n k : Nat} {os : Array Obj} {cur : Array Value} {t : TypeId} {enc : α → List Value} {d : Array α} (hb : w.heap[B]? = some (.cells cur t (0, 0))) : (sortWorldK enc k w B 0 n d os).heap[B]? = some (.cells (putCells id 0 (flatK enc k d) cur) t (0, 0)) := by
 have hg : B < w.heap.size := (Array.getElem?_eq_some_iff.1 hb).1
 unfold sortWorldK putRowK
 rw [heap_grow_old _ _ (by simpa [putRow, mapBlock, Sort.ahead] using hg)]
 simp [putRow, mapBlock, Sort.ahead, Array.getElem?_modify, hb, onCells]
theorem chg_sortK {w : World} {B n k : Nat} {os : Array Obj} {enc : α → List Value} {d : Array α} : Chg B w (sortWorldK enc k w B 0 n d os) := by
 unfold sortWorldK putRowK
 refine ⟨rfl, rfl, rfl, by simp [putRow, mapBlock, Sort.ahead, grow], fun j hj hne => ?_⟩
 rw [heap_grow_old _ _ (by simpa [putRow, mapBlock, Sort.ahead] using hj)]
 simp [putRow, mapBlock, Sort.ahead, Array.getElem?_modify, Ne.symm hne]
theorem own_sortK {w : World} {B n k cap : Nat} {os : Array Obj} {cur : Array Value} {t : TypeId} {enc : α → List Value} {d : Array α} (h0 : 0 < k) (hk : ∀ x, (enc x).length = k) (hb : w.heap[B]? = some (.cells cur t (0, 0))) (hs : cur.size = cap * k) (hn : d.size ≤ cap) (hc : cap ≤ maxLen) : OwS k (sortWorldK enc k w B 0 n d os) (.slice (some ⟨B, 0, none⟩) d.size cap) (d.toList.map enc) B := by
 have hle : d.size * k ≤ cap * k := Nat.mul_le_mul_right _ hn
 refine ⟨h0, fun r hr => by obtain ⟨x, _, rfl⟩ := List.mem_map.1 hr; exact hk x, cap, cur.toList.drop (d.size * k), by simp, by simpa using hn, hc, ?_, t, ?_⟩
 · rw [List.length_drop, Array.length_toList, hs, List.length_map, Array.length_toList, Nat.sub_mul]
 · rw [heap_sortK hb, putCells_id _ _ (by rw [size_flatK, hs]; exact hle), flatK_eq enc k h0 hk, size_flatK]
theorem permIn_list {d d' : Array α} (h : PermIn 0 d.size d d') : d'.toList.Perm d.toList := by
 obtain ⟨h1, _, h3⟩ := h
 have e1 : d.extract 0 d.size = d := Array.extract_size
 have e2 : d'.extract 0 d.size = d' := by rw [← h1]; exact Array.extract_size
 rwa [e1, e2] at h3
theorem sortedIn_list {lt : α → α → Bool} {d : Array α} {n : Nat} (hn : d.size = n) (h : SortedIn lt 0 n d) : d.toList.Pairwise fun x y => lt y x = false := by
 rw [List.pairwise_iff_getElem]
 intro i j hi hj hij
 rw [Array.length_toList] at hi hj
 have := h i j (Nat.zero_le _) hij (by omega)
 rwa [getElem!_pos d i hi, getElem!_pos d j hj] at this
end
end Go.Proofs.Ytpinidlfcifeeaa
namespace Go.Proofs.Ytpinidlfcifeeaa
open Go.RowKit
set_option linter.unusedVariables false
set_option linter.unusedSimpArgs false
set_option maxRecDepth 8000
set_option maxHeartbeats 2000000

open Go.Sort Go.Shelf Go.Lib
shelf_lay_g SlLaysF0.n6 Slsf 6 at Try 55 as sortP
def PO := {p : PT // p.2.nv.oneCell' = true ∧ p.2.iv.oneCell' = true}
instance : Inhabited PO := ⟨⟨(⟨#[]⟩, tNil 0), rfl, rfl⟩⟩
abbrev encO (x : PO) : List Value := encP x.1
abbrev cmpO (x y : PO) : Int := cmpP x.1 y.1
theorem ltO (x y : PO) : ltOf cmpO x y = sless x.1.1 y.1.1 := by
 unfold ltOf cmpO cmpP
 cases h1 : sless x.1.1 y.1.1 with
 | true => rw [if_pos rfl]; rfl
 | false =>
  rw [if_neg (by decide)]
  cases h2 : sless y.1.1 x.1.1 <;> simp
theorem swoO : SWO (ltOf cmpO) where
  irrefl x := by rw [ltO]; exact sless_irrefl _
  trans x y z h1 h2 := by rw [ltO] at *; exact sless_trans _ _ _ h1 h2
  ntrans x y z h1 h2 := by
    rw [ltO] at *
    rcases sless_tri x.1.1 y.1.1 with ⟨p, _, _⟩ | ⟨_, p, _⟩ | p
    · rw [p] at h1; cases h1
    · rcases sless_tri y.1.1 z.1.1 with ⟨q, _, _⟩ | ⟨_, q, _⟩ | q
      · rw [q] at h2; cases h2
      · exact sless_asymm (sless_trans _ _ _ q p)
      · rw [← q]; exact sless_asymm p
    · rw [p]; exact h2
theorem lensO (x : PO) : (encO x).length = 6 := rfl
theorem ocO (x : PO) : ∀ v ∈ encO x, v.oneCell' = true := oc_cons rfl (oc_cons rfl (oc_cons rfl (oc_cons rfl (oc_cons x.2.1 (oc_cons x.2.2 oc_nil)))))
theorem cmpLaysO (blk off size : Nat) (w : World) : CmpLays Try.prog 56 #[] encO 6 cmpO blk off size w := fun _ _ _ _ x y => make1_grow x.1.1 y.1.1 x.1.2.text y.1.2.text x.1.2.kind y.1.2.kind x.1.2.num y.1.2.num x.1.2.nv y.1.2.nv x.1.2.iv y.1.2.iv x.2.1 x.2.2 y.2.1 y.2.2 _
theorem sortP_own (hS : ∀ (blk off cap : Nat) (d : Array PO) (w : World), HoldsK encO 6 w blk off d → blk < w.heap.size → d.size < 4611686018427387904 → Calls Try.prog 55 #[.slice (some ⟨blk, off, none⟩) d.size cap, .func (.func 56) #[] #[]] w fun e w' => e = .returned (.tuple #[]) ∧ ∃ d' n os, PermIn 0 d.size d d' ∧ SortedIn (ltOf cmpO) 0 d.size d' ∧ w' = sortWorldK encO 6 w blk off n d' os)
  {w : World} {v : Value} {d : List PO} {B : Nat} (h : OwS 6 w v (d.map encO) B) (hlen : d.length ≤ 1000000) : Calls Try.prog 55 #[v, .func (.func 56) #[] #[]] w fun e w' => ∃ qs : List PO, e = .returned (.tuple #[]) ∧ qs.Perm d ∧ (qs.Pairwise fun x y => sless y.1.1 x.1.1 = false) ∧ OwS 6 w' v (qs.map encO) B ∧ Chg B w w' := by
 have hlt := h.lt
 obtain ⟨cap, cur, t, rfl, h1, h2, h3, h4, h5⟩ := OwS.holdsK (enc := encO) (d := d.toArray) lensO h
 refine (hS B 0 cap d.toArray w h5 hlt (by simp; omega)).mono ?_
 rintro e w' ⟨rfl, d', n, os, hp, hs, rfl⟩
 have hsz : d'.size = d.toArray.size := hp.1
 refine ⟨d'.toList, rfl, by simpa using permIn_list hp, (sortedIn_list hsz hs).imp fun {x y} h => by rw [ltO] at h; exact h, ?_, chg_sortK⟩
 have := own_sortK (n := n) (os := os) (enc := encO) (d := d') (by decide) lensO h3 h4 (by rw [hsz]; exact h1) h2
 rwa [hsz] at this
theorem sortP_new (hS : ∀ (blk off cap : Nat) (d : Array PO) (w : World), HoldsK encO 6 w blk off d → blk < w.heap.size → d.size < 4611686018427387904 → Calls Try.prog 55 #[.slice (some ⟨blk, off, none⟩) d.size cap, .func (.func 56) #[] #[]] w fun e w' => e = .returned (.tuple #[]) ∧ ∃ d' n os, PermIn 0 d.size d d' ∧ SortedIn (ltOf cmpO) 0 d.size d' ∧ w' = sortWorldK encO 6 w blk off n d' os)
    (hN : ∀ (p : Option Addr) (cap : Nat) (fv : Value) (w : World), Calls Try.prog 55 #[.slice p 0 cap, fv] w fun e w' => e = .returned (.tuple #[]) ∧ w' = w)
    {w : World} {v : Value} {d : List PO} {base : Nat} (h : NewW 6 base (d.map encO) v w) (hb : base ≤ w.heap.size) (hlen : d.length ≤ 1000000) : Calls Try.prog 55 #[v, .func (.func 56) #[] #[]] w fun e w' => ∃ qs : List PO, e = .returned (.tuple #[]) ∧ qs.Perm d ∧ (qs.Pairwise fun x y => sless y.1.1 x.1.1 = false) ∧ NewW 6 base (qs.map encO) v w' ∧ Go.RowKit.Below base w w' := by
  rcases h with ⟨rfl, h, _⟩ | ⟨B, h1, h2⟩
  · have hd : d = [] := by simpa using h
    subst hd
    exact (hN none 0 _ w).mono fun e w' ⟨h1, h2⟩ => ⟨[], h1, .refl _, .nil, .inl ⟨rfl, rfl, by decide⟩, by rw [h2]; exact Go.RowKit.Below.refl _ _⟩
  · exact (sortP_own hS h2 hlen).mono fun e w' ⟨qs, h3, h4, h5, h6, h7⟩ => ⟨qs, h3, h4, h5, .inr ⟨B, h1, h6⟩, h7.from_base h1 hb⟩
open Go.Sort Go.Shelf Go.Lib Go.Proofs
theorem aggP (w : World) : (isAgg 43).run Try.prog w = .ok true w := by
 unfold isAgg
 simp only [Sem.run_bind, run_underlying Try.underlying43, Result.andThen_ok, Sem.run_pure]
theorem sizeP (w : World) : (Go.sizeOf 43).run Try.prog w = .ok 6 w := by
 have h : sizeB Try.prog 43 6 = true := by kernel_rfl
 unfold sizeB at h
 unfold Go.sizeOf typeInfo
 cases hi : Try.prog.info? 43 with
 | none => rw [hi] at h; cases h
 | some q =>
  have hq : q.size = 6 := by simpa [hi] using h
  simp [Sem.run_bind, run_program, hi, Result.andThen_ok, Sem.run_pure, hq]
theorem sortP_v {w : World} {v : Value} {d : List PO} {base : Nat} (h : NewW 6 base (d.map encO) v w) (hb : base ≤ w.heap.size) (hlen : d.length ≤ 1000000) : Calls Try.prog 55 #[v, .func (.func 56) #[] #[]] w fun e w' => ∃ qs : List PO, e = .returned (.tuple #[]) ∧ qs.Perm d ∧ (qs.Pairwise fun x y => sless y.1.1 x.1.1 = false) ∧ NewW 6 base (qs.map encO) v w' ∧ Go.RowKit.Below base w w' :=
 sortP_new (fun blk off cap d w hH hblk hsz => AnyQ.slices_SortFunc sortP 6 aggP sizeP encO lensO ocO cmpO swoO 56 #[] blk off cap d w (enters_of Try.func56 (by kernel_rfl) rfl) (cmpLaysO blk off d.size w) hH hblk hsz)
  (fun p cap fv w => AnyF.slices_SortFunc_none sortP p cap fv w) h hb hlen

theorem PO_list : ∀ (ps : List PT), (∀ p ∈ ps, p.2.nv.oneCell' = true ∧ p.2.iv.oneCell' = true) → ∃ d : List PO, d.map (fun x => x.1) = ps
 | [], _ => ⟨[], rfl⟩
 | p :: ps, h => by
  obtain ⟨d, hd⟩ := PO_list ps fun q hq => h q (.tail _ hq)
  exact ⟨⟨p, h p (.head _)⟩ :: d, congrArg (List.cons p) hd⟩
theorem sortQ_v {w : World} {v : Value} {ps : List PT} {base : Nat} (ho : ∀ p ∈ ps, p.2.nv.oneCell' = true ∧ p.2.iv.oneCell' = true) (h : NewW 6 base (ps.map encP) v w) (hb : base ≤ w.heap.size) (hlen : ps.length ≤ 1000000) : Calls Try.prog 55 [v, .func (.func 56) #[] #[]].toArray w fun e w' => ∃ x, e = .returned x ∧ ((∃ ss : List PT, ss.Perm ps ∧ (ss.Pairwise fun x y => sless y.1 x.1 = false) ∧ NewW 6 base (ss.map encP) v w') ∧ Go.RowKit.Below base w w') := by
 obtain ⟨d, hd⟩ := PO_list ps ho
 have e : ∀ l : List PO, l.map encO = (l.map (fun x => x.1)).map encP := fun l => by rw [List.map_map]; rfl
 rw [← hd, ← e] at h
 refine (sortP_v h hb (by rw [← hd, List.length_map] at hlen; exact hlen)).mono ?_
 rintro x w' ⟨qs, h1, h2, h3, h4, h5⟩
 refine ⟨_, h1, ⟨qs.map (fun x => x.1), ?_, ?_, ?_⟩, h5⟩
 · rw [← hd]; exact h2.map _
 · exact List.pairwise_map.2 h3
 · rw [← e]; exact h4
def nmA (ss : List PT) (i : Nat) : List ByteArray := (ss.take i).map Prod.fst
def itA (ss : List PT) (i : Nat) : List Tr := (ss.take i).map Prod.snd
theorem rises_snoc {l : List ByteArray} {p r : ByteArray} (h : Rises (l ++ [p])) (hr : sless p r = true) : Rises (l ++ [p] ++ [r]) := by
 refine List.pairwise_append.2 ⟨h, List.pairwise_singleton _ _, fun a ha b hb => ?_⟩
 rw [List.mem_singleton.1 hb]
 rcases List.mem_append.1 ha with h1 | h1
 · exact sless_trans _ _ _ ((List.pairwise_append.1 h).2.2 a h1 p (.head _)) hr
 · rw [List.mem_singleton.1 h1]; exact hr
section
variable {ss ps : List PT} {i : Nat} {r p : PT}
theorem nmA_add (h : ss[i]? = some r) : nmA ss (i + 1) = nmA ss i ++ [r.1] := by unfold nmA; rw [List.take_add_one, h, List.map_append]; rfl
theorem itA_add (h : ss[i]? = some r) : itA ss (i + 1) = itA ss i ++ [r.2] := by unfold itA; rw [List.take_add_one, h, List.map_append]; rfl
theorem nmA_len (ss : List PT) (i : Nat) : (nmA ss i).length ≤ i := by unfold nmA; rw [List.length_map, List.length_take]; omega
theorem itA_len (ss : List PT) (i : Nat) : (itA ss i).length ≤ i := by unfold itA; rw [List.length_map, List.length_take]; omega
theorem nmA_all (h : i = ss.length) : nmA ss i = (ss.map erP).map Prod.fst := by unfold nmA; rw [h, List.take_length, List.map_map]; rfl
theorem itA_all (h : i = ss.length) : (itA ss i).map Tr.er = (ss.map erP).map Prod.snd := by unfold itA; rw [h, List.take_length, List.map_map, List.map_map]; rfl
theorem rises_add (hp : ss.Pairwise fun x y => sless y.1 x.1 = false) (hr : Rises (nmA ss i)) (h : ss[i]? = some r) (hn : 0 < i → ∀ q, ss[i - 1]? = some q → q.1 ≠ r.1) : Rises (nmA ss (i + 1)) := by
 rw [nmA_add h]
 cases i with
 | zero => exact List.pairwise_singleton _ _
 | succ k =>
  obtain ⟨h1, rfl⟩ := List.getElem?_eq_some_iff.1 h
  have hq := List.getElem?_eq_getElem (l := ss) (i := k) (by omega)
  rw [nmA_add hq] at hr ⊢
  refine rises_snoc hr ?_
  have h2 := List.pairwise_iff_getElem.1 hp k (k + 1) (by omega) h1 (by omega)
  rcases sless_tri (ss[k]).1 (ss[k + 1]).1 with ⟨a, _, _⟩ | ⟨_, a, _⟩ | a
  · exact a
  · rw [a] at h2; cases h2
  · exact absurd a (hn (by omega) _ hq)
theorem dup_not (h0 : 0 < i) (h : ss[i]? = some r) (hq : ss[i - 1]? = some p) (e : p.1 = r.1) : foldZ (ss.map erP) [] = none := by
 refine foldZ_twice fun hn => ?_
 obtain ⟨h1, rfl⟩ := List.getElem?_eq_some_iff.1 h
 obtain ⟨h2, rfl⟩ := List.getElem?_eq_some_iff.1 hq
 have := List.pairwise_iff_getElem.1 hn (i - 1) i (by simpa using h2) (by simpa using h1) (by omega)
 simp only [List.getElem_map] at this
 exact this e
theorem ok_perm (hp : ss.Perm ps) (h : ∀ j p, j < ps.length → ps[j]? = some p → okP p = true) : ∀ j p, j < ss.length → ss[j]? = some p → okP p = true := fun j p _ hj => by
 obtain ⟨k, hk⟩ := List.mem_iff_getElem?.1 (hp.mem_iff.1 (List.mem_of_getElem? hj))
 exact h k p (List.getElem?_eq_some_iff.1 hk).1 hk
theorem mk_perm (hp : ss.Perm ps) : makeJ (ps.map erP) = makeJ (ss.map erP) := makeJ_perm (hp.map erP).symm
end
theorem deepMk_v (n : Nat) (ns : List ByteArray) (ts : List Tr) (nv iv : Value) (w : World) (L : List Nat) (hL : LL L w) (h : RdT (n + 2) L w (.mk 6 0 ⟨#[]⟩ nv ns iv ts)) : CV Try.prog 20 [.agg #[.int .i64 6, .int .i64 0, .string ⟨#[]⟩, nv, iv]] w fun v W => ∃ d : Nat, v = .int .i64 (d : Int) ∧ (12 < d ↔ ∃ x ∈ ts, 12 ≤ deepJ 13 x.er) := by
  have e := jDeep_v (n + 1) (.mk 6 0 ⟨#[]⟩ nv ns iv ts) w L hL h
  refine e.mono fun v W _ hv => ⟨_, hv, ?_⟩
  rw [deep_node (.inr rfl)]
  constructor
  · intro h1
    refine Classical.byContradiction fun h2 => ?_
    have : maxJ (deepJ 12) ((Tr.mk 6 0 ⟨#[]⟩ nv ns iv ts).items.map Tr.er) ≤ 11 := maxJ_iff.2 fun j hj => by
      obtain ⟨x, hx, rfl⟩ := List.mem_map.1 hj
      have h3 : deepJ 12 x.er = min 12 (deepJ 13 x.er) := deep_min 12 x.er
      have h4 : ¬ 12 ≤ deepJ 13 x.er := fun q => h2 ⟨x, hx, q⟩
      omega
    omega
  · rintro ⟨x, hx, h2⟩
    refine Classical.byContradiction fun h1 => ?_
    have h3 := maxJ_iff.1 (show maxJ (deepJ 12) ((Tr.mk 6 0 ⟨#[]⟩ nv ns iv ts).items.map Tr.er) ≤ 11 by omega) x.er (List.mem_map.2 ⟨x, hx, rfl⟩)
    have h4 : deepJ 12 x.er = min 12 (deepJ 13 x.er) := deep_min 12 x.er
    omega
set_option maxHeartbeats 1000000 in
theorem jMake_v (n : Nat) (ps : List PT) (gv : Value) (w : World) (L : List Nat) (hL : LL L w) (hgv : RdF 6 L w gv (ps.map encP)) (hps : RdTs (n + 1) L w (ps.map Prod.snd))  (hlen : ps.length ≤ 1000000) (hzs : ∀ p ∈ ps, SzT 1000000 (n + 1) p.2 ∧ p.1.size ≤ 1000000) : CV Try.prog 29 [gv] w fun v W => (∃ t m, v = .tuple #[.agg #[.int .i64 t.kind, .int .i64 t.num, .string t.text, t.nv, t.iv], .int .i64 0] ∧ makeJ (ps.map erP) = .ok t.er ∧ RdT (m + 1) L W t) ∨ (∃ e, v = .tuple #[.agg #[.int .i64 0, .int .i64 0, .string ⟨#[]⟩, .slice none 0 0, .slice none 0 0], .int .i64 e] ∧ e ≠ 0 ∧ makeJ (ps.map erP) = .error e) := by
 refine cv_enter (N := 75) (f := [(0, gv)]) Try.func29 rfl rfl rfl rfl fun Q hQ hE => ?_
 have hB := Below.refl w.heap.size w
 have hL0 := hL
 have hgvm : ps.length ≤ maxLen := by have := hgv.len; rwa [List.length_map] at this
 unfold maxLen at hgvm
 refine Sq fun K1 hK1 => (Rg ?_)
 refine Ge (dx_alloc rfl ty_zero_26 rfl) rfl rfl ?_
 rintro _ W2 ⟨rfl, k3, b4, z5⟩
 have l6 := hB.size
 replace hgv := hgv.more b4 (Nat.le_refl _)
 replace hps := hps.more b4 (Nat.le_refl _)
 replace hB := below_then hB b4
 replace hL := LL.more hL z5
 refine Pu rfl (Ni (hK1 (Sq fun K7 hK7 => (Sq fun K8 hK8 => (Rg (Pu rfl (Va (dx_lenFM rfl ty_slice_40 rfl hgv) rfl rfl ?_)))))))
 refine Pu rfl (Ni (hK8 (WC.block ?_)))
 refine WC.loop (fun (i : Nat) => [(0, gv), (2, .pointer (some ⟨w.heap.size, 0, none⟩)), (10, gv), (11, .int .i64 (ps.length : Int)), (12, .int .i64 (i : Int))]) (fun (i : Nat) W => i ≤ ps.length ∧ (∀ j p, j < i → ps[j]? = some p → okP p = true) ∧ Below w.heap.size w W ∧ LL (w.heap.size :: L) W ∧ RdF 6 (w.heap.size :: L) W gv (ps.map encP) ∧ RdTs (n + 1) (w.heap.size :: L) W (ps.map Prod.snd) ∧ Blk W w.heap.size [.int .i64 0, .int .i64 0, .string ⟨#[]⟩, .slice none 0 0, .slice none 0 0]) (fun (i : Nat) => ps.length - i) 0 (by repeat first | exact trivial | exact And.intro rfl trivial | refine And.intro rfl ?_ | refine And.intro (congrArg (fun z : Int => some (Value.int .i64 z)) (by omega)) ?_) ⟨(Nat.zero_le _), (fun j p h => by omega), hB, hL, hgv, hps, k3⟩ ?_
 clear hgv hps k3 hB hL
 rintro K9 i W10 ⟨hi, hall, hB, hL, hgv, hps, k3⟩ hK9
 refine Sq fun K11 hK11 => (Rg (Va (dx_lss rfl rfl rfl) rfl rfl (Ni (hK11 (Sq fun K12 hK12 => ?_)))))
 refine WC.cond rfl (fun c13 => ?_) (fun c13 => ?_)
 ·
  replace c13 := dT c13
  refine WC.skip (hK12 (Sq fun K14 hK14 => (WC.block (Sq fun K15 hK15 => (Rg ?_)))))
  obtain ⟨r16, e17⟩ : ∃ x, ps[i]? = some x := ⟨_, List.getElem?_eq_getElem (by omega)⟩
  have hzr16 := (hzs r16 (List.mem_of_getElem? e17)).2
  refine Ge (dx_idxF i rfl ty_slice_40 rfl rfl hgv (by omega) (at_mapX e17)) rfl rfl ?_
  rintro u18 _ ⟨rfl, p19⟩
  refine Va (dx_loadPN rfl ty_agg_43_6 rfl p19 rfl) rfl rfl ?_
  refine Ge (dx_alloc rfl ty_zero_43 rfl) rfl rfl ?_
  rintro _ W20 ⟨rfl, k21, b22, z23⟩
  have n24 : w.heap.size ≠ W10.heap.size := Nat.ne_of_lt k3.lt
  have l25 := hB.size
  replace hgv := hgv.more b22 (Nat.le_refl _)
  replace hps := hps.more b22 (Nat.le_refl _)
  replace k3 := k3.below b22
  replace hB := below_then hB b22
  replace hL := LL.more hL z23
  refine WL.do (dx_store (cs' := [.string r16.1, .int .i64 r16.2.kind, .int .i64 r16.2.num, .string r16.2.text, r16.2.nv, r16.2.iv]) (vs := [.string r16.1, .int .i64 r16.2.kind, .int .i64 r16.2.num, .string r16.2.text, r16.2.nv, r16.2.iv]) rfl ty_size_43_6 rfl rfl rfl (oc_cons rfl (oc_cons rfl (oc_cons rfl (oc_cons rfl (oc_cons ((hps r16.2 (List.mem_map.2 ⟨r16, List.mem_of_getElem? e17, rfl⟩)).1).one (oc_cons ((hps r16.2 (List.mem_map.2 ⟨r16, List.mem_of_getElem? e17, rfl⟩)).2.1).one oc_nil)))))) k21 rfl (Nat.le_of_ble_eq_true rfl) rfl) rfl ?_
  rintro _ W26 ⟨k28, o27⟩
  replace k3 := k3.other o27 n24
  clear k21
  replace hgv := hgv.only o27 (.head _)
  replace hps := hps.only o27 (.head _)
  replace hB := o27.below hB l25
  replace hL := LL.only hL o27
  refine Ni (hK15 (Sq fun K29 hK29 => (Rg (Va (dx_fld (o1 := 1) rfl ty_fld_43_1_1 rfl rfl) rfl rfl (Va (dx_loadN (cs := [.int .i64 r16.2.kind, .int .i64 r16.2.num, .string r16.2.text, r16.2.nv, r16.2.iv]) rfl ty_agg_26_5 rfl (k28.part 1 5) rfl) rfl rfl ?_)))))
  refine Ge (dx_cv rfl Try.func15 rfl rfl rfl (jRight_v n r16.2 W26 _ hL (hps r16.2 (List.mem_map.2 ⟨r16, List.mem_of_getElem? e17, rfl⟩)) (hzs r16 (List.mem_of_getElem? e17)).1)) rfl rfl ?_
  rintro _ W31 ⟨rfl, b30⟩
  replace hgv := hgv.below b30
  replace hps := hps.below b30
  replace k3 := k3.below b30
  replace k28 := k28.below b30
  replace hB := below_then hB b30
  replace hL := LL.below hL b30
  refine Va (dx_not rfl rfl) rfl rfl (Pu rfl ?_)
  refine WL.split 20 rfl (fun g32 => ?_) (fun g32 => ?_)
  ·
   replace g32 := bnot_t g32
   refine Of rfl (Of rfl (Of rfl (Of rfl (Of rfl (Pu rfl (Ni (hK29 ?_)))))))
   refine WC.condT rfl (Sq fun K33 hK33 => (Rg (Va (dx_build rfl rfl (built_of_O (cs := zV) (by kernel_rfl) oc_nil)) rfl rfl ?_)))
   refine WL.do (dx_store (cs' := zV) (vs := zV) rfl ty_size_26_5 rfl rfl rfl (oc_cons rfl (oc_cons rfl (oc_cons rfl (oc_cons rfl (oc_cons rfl oc_nil))))) k3 rfl (Nat.le_of_ble_eq_true rfl) rfl) rfl ?_
   rintro _ W34 ⟨k36, o35⟩
   clear k3
   replace hB := o35.below hB l6
   refine Pu rfl (Ni (hK33 ?_))
   exact WC.ret fun a_ ha_ => hQ (cv_ret2 rfl (.agg rfl ty_agg_26_5 k36.range rfl) (.tmp rfl) (.inr ⟨1, rfl, by decide, make_1 e17 (by unfold okP; simp_all)⟩) hB ha_)
  ·
   replace g32 := bnot_f g32
   refine Va (dx_fld (o1 := 0) rfl ty_fld_43_0_0 rfl rfl) rfl rfl (Va (dx_load rfl ty_one_9 rfl (k28.cell (k := 0) rfl)) rfl rfl ?_)
   refine Ge (dx_sb (L := W10.heap.size :: w.heap.size :: L) rfl Try.underlying9 Try.underlying50 Try.underlying5 rfl hL (by unfold maxLen; omega)) rfl rfl ?_
   rintro u37 W38 ⟨k39, b40⟩
   replace hgv := hgv.below b40
   replace hps := hps.below b40
   replace k3 := k3.below b40
   replace hB := below_then hB b40
   replace hL := LL.below hL b40
   refine Ge (dx_cv rfl Try.func32 rfl rfl rfl ((show CV _ _ [_] _ (fun v _ => v = .bool (upB r16.1)) from cv_oldB (right_any u37 (sb r16.1) W38 (rdI_of k39) (sb_bytes _) (by rw [sb_length]; omega))))) rfl rfl ?_
   rintro _ W42 ⟨rfl, b41⟩
   replace hgv := hgv.below b41
   replace hps := hps.below b41
   replace k3 := k3.below b41
   replace hB := below_then hB b41
   replace hL := LL.below hL b41
   refine Va (dx_not rfl rfl) rfl rfl (Pu rfl (Ni (hK29 ?_)))
   refine WC.cond rfl (fun c43 => ?_) (fun c43 => ?_)
   ·
    replace c43 := bnot_t c43
    refine Sq fun K44 hK44 => (Rg (Va (dx_build rfl rfl (built_of_O (cs := zV) (by kernel_rfl) oc_nil)) rfl rfl ?_))
    refine WL.do (dx_store (cs' := zV) (vs := zV) rfl ty_size_26_5 rfl rfl rfl (oc_cons rfl (oc_cons rfl (oc_cons rfl (oc_cons rfl (oc_cons rfl oc_nil))))) k3 rfl (Nat.le_of_ble_eq_true rfl) rfl) rfl ?_
    rintro _ W45 ⟨k47, o46⟩
    clear k3
    replace hB := o46.below hB l6
    refine Pu rfl (Ni (hK44 ?_))
    exact WC.ret fun a_ ha_ => hQ (cv_ret2 rfl (.agg rfl ty_agg_26_5 k47.range rfl) (.tmp rfl) (.inr ⟨1, rfl, by decide, make_1 e17 (by unfold okP; simp_all)⟩) hB ha_)
   ·
    replace c43 := bnot_f c43
    refine WC.skip (hK14 (Rg (Va (dx_add (r := (i : Int) + 1) rfl rfl rfl (wrap64_id (by omega))) rfl rfl (Pu rfl (Ni ?_)))))
    replace hL := hL.less (fun x hx => (.tail _ hx))
    replace hgv := hgv.less (fun x hx => (.tail _ hx))
    replace hps := hps.less (fun x hx => (.tail _ hx))
    exact hK9 (i + 1) ⟨(by omega), (fun j p hj hp => by rcases Nat.lt_or_ge j i with h_ | h_; exact hall j p h_ hp; (obtain rfl : j = i := by omega); rw [e17] at hp; cases hp; unfold okP; simp_all), hB, hL, hgv, hps, k3⟩ (by omega) (by repeat first | exact trivial | exact And.intro rfl trivial | refine And.intro rfl ?_ | refine And.intro (congrArg (fun z : Int => some (Value.int .i64 z)) (by omega)) ?_)
 ·
  replace c13 := dF c13
  refine WC.exit ?_
  refine hK7 (Sq fun K48 hK48 => (Rg (Pu rfl ?_)))
  have hps1 : ∀ p ∈ ps, p.2.nv.oneCell' = true ∧ p.2.iv.oneCell' = true := fun p hp => (fun h : RdT (n + 1) _ _ p.2 => ⟨h.1.one, h.2.1.one⟩) (hps p.2 (List.mem_map.2 ⟨p, hp, rfl⟩))
  have hone : ∀ r ∈ ps.map encP, ∀ u ∈ r, u.oneCell' = true := fun r hr => by obtain ⟨p, hp, rfl⟩ := List.mem_map.1 hr; exact oc_cons rfl (hps p.2 (List.mem_map.2 ⟨p, hp, rfl⟩)).oc
  refine Ge (dx_cv rfl Try.func54 rfl rfl rfl (cloneSP_v _ _ W10 [] (LL.nil _) (RdF.less (L' := []) hgv (fun x hx => by cases hx)) hone (by rw [List.length_map]; omega))) rfl rfl ?_
  rintro u3 W3_ ⟨hN3, b3_⟩
  refine Pu rfl (Ni (hK48 (Sq fun K49 hK49 => (Rg (Pu rfl ?_)))))
  refine Ge (dx_callA rfl Try.func55 rfl rfl rfl (sortQ_v hps1 hN3 b3_.size hlen)) rfl rfl ?_
  rintro _ W4_ ⟨⟨ss, hsp, hsw, hN4⟩, b4_⟩
  have b5_ := b3_.trans b4_
  have hss := hN4.rdL hL (Nat.le_refl _)
  replace hps := hps.below b5_
  replace k3 := k3.below b5_
  replace hB := below_then hB b5_
  replace hL := LL.below hL b5_
  have hpt : RdTs (n + 1) (w.heap.size :: L) W4_ (ss.map Prod.snd) := fun c hc => hps c ((hsp.map Prod.snd).mem_iff.1 hc)
  have hsl : ss.length ≤ 1000000 := by rw [hsp.length_eq]; exact hlen
  have hoks := ok_perm hsp (fun j p h => hall j p (by omega))
  have hmp := mk_perm hsp
  refine Ni (hK49 (Sq fun K50 hK50 => (Rg (Va (dx_build rfl rfl (built_of_O (cs := [.int .i64 6, .int .i64 0, .string ⟨#[]⟩, .slice none 0 0, .slice none 0 0]) (by kernel_rfl) (oc_cons rfl oc_nil))) rfl rfl ?_))))
  refine Ge (dx_alloc rfl ty_zero_26 rfl) rfl rfl ?_
  rintro _ W51 ⟨rfl, k52, b53, z54⟩
  have n55 : w.heap.size ≠ W4_.heap.size := Nat.ne_of_lt k3.lt
  have l56 := hB.size
  replace hss := hss.more b53 (Nat.le_refl _)
  replace hpt := hpt.more b53 (Nat.le_refl _)
  replace k3 := k3.below b53
  replace hB := below_then hB b53
  replace hL := LL.more hL z54
  refine WL.do (dx_store (cs' := [.int .i64 6, .int .i64 0, .string ⟨#[]⟩, .slice none 0 0, .slice none 0 0]) (vs := [.int .i64 6, .int .i64 0, .string ⟨#[]⟩, .slice none 0 0, .slice none 0 0]) rfl ty_size_26_5 rfl rfl rfl (oc_cons rfl (oc_cons rfl (oc_cons rfl (oc_cons rfl (oc_cons rfl oc_nil))))) k52 rfl (Nat.le_of_ble_eq_true rfl) rfl) rfl ?_
  rintro _ W57 ⟨k59, o58⟩
  replace k3 := k3.other o58 n55
  clear k52
  replace hss := hss.only o58 (.head _)
  replace hpt := hpt.only o58 (.head _)
  replace hB := o58.below hB l56
  replace hL := LL.only hL o58
  refine Ni (hK50 (Sq fun K60 hK60 => (Sq fun K61 hK61 => (Rg (Pu rfl (Va (dx_lenFM rfl ty_slice_40 rfl hss) rfl rfl (Pu rfl ?_)))))))
  refine Ni (hK61 (WC.block ?_))
  obtain ⟨b0, hb0⟩ : ∃ b, b = W57.heap.size := ⟨_, rfl⟩
  have hb0L : ∀ x ∈ (W4_.heap.size :: w.heap.size :: L), x < b0 := by rw [hb0]; exact hL
  have hb0w : w.heap.size ≤ b0 := by rw [hb0]; exact hB.size
  have hss6 := hss
  have hpt6 := hpt
  have hag : AgL W57 (W4_.heap.size :: w.heap.size :: L) (W4_.heap.size :: w.heap.size :: L) W57 := ⟨fun _ h _ => h, ⟨Nat.le_refl _, fun _ _ _ => rfl⟩⟩
  have hm : MembI (n + 1) b0 (W4_.heap.size :: w.heap.size :: L) (.slice none 0 0) (nmA ss 0) (.slice none 0 0) (itA ss 0) W57 := ⟨hb0L, .inl ⟨rfl, rfl, by first | rfl | simp, by first | rfl | simp⟩⟩
  refine WC.loop3 (fun (i : Nat) (nv : Value) (iv : Value) => [(0, gv), (2, .pointer (some ⟨w.heap.size, 0, none⟩)), (6, u3), (7, .pointer (some ⟨W4_.heap.size, 0, none⟩)), (34, u3), (35, .int .i64 (ss.length : Int)), (36, .int .i64 (i : Int))]) (fun (i : Nat) (nv : Value) (iv : Value) W => i ≤ ss.length ∧ Rises (nmA ss i) ∧ Below w.heap.size w W ∧ LL (W4_.heap.size :: w.heap.size :: L) W ∧ RdF 6 (W4_.heap.size :: w.heap.size :: L) W u3 (ss.map encP) ∧ RdTs (n + 1) (W4_.heap.size :: w.heap.size :: L) W (ss.map Prod.snd) ∧ AgL W57 (W4_.heap.size :: w.heap.size :: L) (W4_.heap.size :: w.heap.size :: L) W ∧ MembI (n + 1) b0 (W4_.heap.size :: w.heap.size :: L) nv (nmA ss i) iv (itA ss i) W ∧ Blk W w.heap.size [.int .i64 0, .int .i64 0, .string ⟨#[]⟩, .slice none 0 0, .slice none 0 0] ∧ Blk W W4_.heap.size [.int .i64 6, .int .i64 0, .string ⟨#[]⟩, nv, iv]) (fun (i : Nat) (nv : Value) (iv : Value) => ss.length - i) 0 (.slice none 0 0) (.slice none 0 0) (by repeat first | exact trivial | exact And.intro rfl trivial | refine And.intro rfl ?_ | refine And.intro (congrArg (fun z : Int => some (Value.int .i64 z)) (by omega)) ?_) ⟨Nat.zero_le _, (by unfold nmA; exact List.Pairwise.nil), hB, hL, hss, hpt, hag, hm, k3, k59⟩ ?_
  clear hss hpt hag hm k3 k59 hB hL
  rintro K62 i nv iv W63 ⟨hi, hr, hB, hL, hss, hpt, hag, hm, k3, k59⟩ hK62
  refine Sq fun K64 hK64 => (Rg (Va (dx_lss rfl rfl rfl) rfl rfl (Ni (hK64 (Sq fun K65 hK65 => ?_)))))
  refine WC.cond rfl (fun c66 => ?_) (fun c66 => ?_)
  ·
   replace c66 := dT c66
   refine WC.skip (hK65 (Sq fun K67 hK67 => (WC.block (Sq fun K68 hK68 => ?_))))
   obtain ⟨-, hm⟩ := hm
   have hlN := And.intro (nmA_len ss i) (itA_len ss i)
   rcases hm with ⟨rfl, rfl, hns0, hts0⟩ | ⟨Bn, Bi, hni, hbn, hbi, hOn, hOi, hts⟩
   ·
    refine Rg (Pu rfl ?_)
    obtain ⟨r69, e70⟩ : ∃ x, ss[i]? = some x := ⟨_, List.getElem?_eq_getElem (by omega)⟩
    refine Ge (dx_idxF i rfl ty_slice_40 rfl rfl hss (by omega) (at_mapX e70)) rfl rfl ?_
    rintro u71 _ ⟨rfl, p72⟩
    refine Va (dx_loadPN rfl ty_agg_43_6 rfl p72 rfl) rfl rfl ?_
    refine Ge (dx_alloc rfl ty_zero_43 rfl) rfl rfl ?_
    rintro _ W73 ⟨rfl, k74, b75, z76⟩
    have n77 : w.heap.size ≠ W63.heap.size := Nat.ne_of_lt k3.lt
    have n78 : W4_.heap.size ≠ W63.heap.size := Nat.ne_of_lt k59.lt
    have l79 := hB.size
    replace hss := hss.more b75 (Nat.le_refl _)
    replace hpt := hpt.more b75 (Nat.le_refl _)
    replace hag := hag.more b75 (Nat.le_refl _)
    replace k3 := k3.below b75
    replace k59 := k59.below b75
    replace hB := below_then hB b75
    replace hL := LL.more hL z76
    refine Pu rfl ?_
    refine WL.do (dx_store (cs' := [.string r69.1, .int .i64 r69.2.kind, .int .i64 r69.2.num, .string r69.2.text, r69.2.nv, r69.2.iv]) (vs := [.string r69.1, .int .i64 r69.2.kind, .int .i64 r69.2.num, .string r69.2.text, r69.2.nv, r69.2.iv]) rfl ty_size_43_6 rfl rfl rfl (oc_cons rfl (oc_cons rfl (oc_cons rfl (oc_cons rfl (oc_cons ((hpt r69.2 (List.mem_map.2 ⟨r69, List.mem_of_getElem? e70, rfl⟩)).1).one (oc_cons ((hpt r69.2 (List.mem_map.2 ⟨r69, List.mem_of_getElem? e70, rfl⟩)).2.1).one oc_nil)))))) k74 rfl (Nat.le_of_ble_eq_true rfl) rfl) rfl ?_
    rintro _ W80 ⟨k82, o81⟩
    replace k3 := k3.other o81 n77
    replace k59 := k59.other o81 n78
    clear k74
    replace hss := hss.only o81 (.head _)
    replace hpt := hpt.only o81 (.head _)
    replace hag := hag.only o81 (.head _)
    replace hB := o81.below hB l79
    replace hL := LL.only hL o81
    refine Ni (hK68 (Sq fun K83 hK83 => (Sq fun K84 hK84 => ?_)))
    obtain ⟨b85, hb85⟩ : ∃ b, b = (decide (0 < (i : Int))) := ⟨_, rfl⟩
    obtain ⟨r86, e87⟩ : ∃ x, ss[(i - 1)]? = some x := ⟨_, List.getElem?_eq_getElem (by omega)⟩
    refine WC.drawM 13 [(some 41, .is (.int .i64 (i : Int))), (some 42, .is (.bool (decide (0 < (i : Int))))), (some 43, .is (.bool b85)), (some 44, .is (bif b85 then u3 else undef)), (some 45, .is (bif b85 then .int .i64 (i : Int) else undef)), (some 46, .is (bif b85 then .int .i64 ((i : Int) - 1) else undef)), (some 47, .by fun u W => b85 = true → PtR (W63.heap.size :: W4_.heap.size :: w.heap.size :: L) W u (encP r86)), (some 48, .by fun u W => b85 = true → PtR (W63.heap.size :: W4_.heap.size :: w.heap.size :: L) W u [.string r86.1]), (some 49, .is (bif b85 then .string r86.1 else undef)), (some 50, .is (bif b85 then .pointer (some ⟨W63.heap.size, 0, none⟩) else undef)), (some 51, .is (bif b85 then .string r69.1 else undef)), (some 52, .is (bif b85 then .bool (decide (r86.1 = r69.1)) else undef)), (some 53, .is (.bool (b85 && (decide (r86.1 = r69.1)))))] [[], [0], [1], [2], [2], [4, 2], [3, 5, 2], [6, 2], [7, 2], [2], [9, 2], [8, 10, 2], [2, 11]] (by kernel_rfl) (by kernel_rfl) (by kernel_rfl) (by kernel_rfl) (by kernel_rfl) (by kernel_rfl) (by kernel_rfl) ⟨fun _ _ _ hb h g => (h g).below hb, fun _ _ _ hb h g => (h g).below hb, trivial⟩ ?_ ?_
    ·
     refine Dc (fun Wd hd => ?_) ?_
     ·
      exact Dd (dx_move rfl rfl) rfl
     refine Dc (fun Wd hd => ?_) ?_
     ·
      exact Dd (dx_gtr rfl rfl rfl) rfl
     refine Dc (fun Wd hd => ?_) ?_
     ·
      exact DV.dr (dx_move rfl rfl) ⟨Below.refl _ _, by rw [hb85]; rfl⟩
     refine Dc (fun Wd hd => ?_) ?_
     ·
      cases b85
      ·
       exact Dd (dv_off rfl) rfl
      ·
       exact Dd (dx_move rfl rfl) rfl
     refine Dc (fun Wd hd => ?_) ?_
     ·
      cases b85
      ·
       exact Dd (dv_off rfl) rfl
      ·
       exact Dd (dx_move rfl rfl) rfl
     refine Dc (fun Wd hd => ?_) ?_
     ·
      cases b85
      ·
       exact Dd (dv_off rfl) rfl
      ·
       exact Dd (dx_sub (r := (i : Int) - 1) rfl rfl rfl (wrap64_id (by omega))) rfl
     refine Dc (fun Wd hd => ?_) ?_
     ·
      cases b85
      ·
       exact DV.dr (dv_off rfl) ⟨Below.refl _ _, fun h => by cases h⟩
      ·
       have hss := hss.below hd
       exact (dx_idxF (i - 1) rfl ty_slice_40 rfl rfl hss (by first | omega | (have hq_ := of_decide_eq_true hb85.symm; omega)) (at_mapX e87)).mono (fun v W' h => ⟨by rw [← h.1]; exact Below.refl _ _, fun _ => by rw [← h.1]; exact h.2⟩)
     refine Dc (fun Wd hd => ?_) ?_
     ·
      intro u13_6 p13_6
      cases b85
      ·
       exact DV.dr (dv_off rfl) ⟨Below.refl _ _, fun h => by cases h⟩
      ·
       replace p13_6 := p13_6 rfl
       exact (dx_fldP 1 rfl ty_fld_43_0_0 rfl p13_6 (cs' := [.string r86.1]) rfl (Nat.succ_pos _)).mono (fun v W' h => ⟨by rw [← h.1]; exact Below.refl _ _, fun _ => by rw [← h.1]; exact h.2⟩)
     refine Dc (fun Wd hd => ?_) ?_
     ·
      intro u13_7 p13_7
      cases b85
      ·
       exact Dd (dv_off rfl) rfl
      ·
       replace p13_7 := p13_7 rfl
       exact Dd (dx_loadP rfl ty_one_9 rfl p13_7) rfl
     refine Dc (fun Wd hd => ?_) ?_
     ·
      cases b85
      ·
       exact Dd (dv_off rfl) rfl
      ·
       exact Dd (dx_fld (o1 := 0) rfl ty_fld_43_0_0 rfl rfl) rfl
     refine Dc (fun Wd hd => ?_) ?_
     ·
      cases b85
      ·
       exact Dd (dv_off rfl) rfl
      ·
       have k82 := k82.below hd
       exact Dd (dx_load rfl ty_one_9 rfl (k82.cell (k := 0) rfl)) rfl
     refine Dc (fun Wd hd => ?_) ?_
     ·
      cases b85
      ·
       exact Dd (dv_off rfl) rfl
      ·
       exact Dd (dx_eqlT rfl rfl rfl) rfl
     refine Dc (fun Wd hd => ?_) ?_
     ·
      cases b85
      ·
       exact Dd (dx_pick rfl rfl rfl) rfl
      ·
       exact Dd (dx_pick rfl rfl rfl) rfl
     exact trivial
    ·
     intro W88 b89
     intro _ _
     intro _ _
     replace hss := hss.below b89
     replace hpt := hpt.below b89
     replace hag := hag.below b89
     replace k3 := k3.below b89
     replace k59 := k59.below b89
     replace k82 := k82.below b89
     replace hB := below_then hB b89
     replace hL := LL.below hL b89
     refine Ni (hK84 ?_)
     refine WC.cond rfl (fun c90 => ?_) (fun c90 => ?_)
     ·
      obtain ⟨g91, g92⟩ := band_t c90
      replace g92 := dT g92
      refine Sq fun K93 hK93 => (Rg (Va (dx_build rfl rfl (built_of_O (cs := zV) (by kernel_rfl) oc_nil)) rfl rfl ?_))
      refine WL.do (dx_store (cs' := zV) (vs := zV) rfl ty_size_26_5 rfl rfl rfl (oc_cons rfl (oc_cons rfl (oc_cons rfl (oc_cons rfl (oc_cons rfl oc_nil))))) k3 rfl (Nat.le_of_ble_eq_true rfl) rfl) rfl ?_
      rintro _ W94 ⟨k96, o95⟩
      clear k3
      replace hB := o95.below hB l6
      refine Pu rfl (Ni (hK93 ?_))
      exact WC.ret fun a_ ha_ => hQ (cv_ret2 rfl (.agg rfl ty_agg_26_5 k96.range rfl) (.tmp rfl) (.inr ⟨6, rfl, by decide, hmp.trans (make_6 hoks (dup_not (by simp_all) e70 e87 (by simp_all)))⟩) hB ha_)
     ·
      refine WC.skip (hK83 (Sq fun K97 hK97 => ?_))
      have hne : 0 < i → ∀ q, ss[i - 1]? = some q → q.1 ≠ r69.1 := fun h0_ q hq e_ => by rw [e87] at hq; cases hq; simp_all
      refine Rg (Va (dx_fld (o1 := 3) rfl ty_fld_26_3_3 rfl rfl) rfl rfl (Va (dx_load rfl ty_one_23 rfl (k59.cell (k := 3) rfl)) rfl rfl (Va (dx_fld (o1 := 0) rfl ty_fld_43_0_0 rfl rfl) rfl rfl (Va (dx_load rfl ty_one_9 rfl (k82.cell (k := 0) rfl)) rfl rfl ?_))))
      refine Ge (dx_lit1 (r := [.string r69.1]) rfl ty_ap_23 (by decide) (by decide) rfl rfl rfl) rfl rfl ?_
      rintro u102 W98 ⟨k99, b100, z101⟩
      have l106 := hB.size
      replace hss := hss.more b100 (Nat.le_refl _)
      replace hpt := hpt.more b100 (Nat.le_refl _)
      replace hag := hag.more b100 (Nat.le_refl _)
      replace k3 := k3.below b100
      replace k59 := k59.below b100
      replace k82 := k82.below b100
      replace hB := below_then hB b100
      replace hL := LL.more hL z101
      refine Ge (dx_apF (rs := []) (news := [eS r69.1]) rfl ty_ap_23 rfl rfl (RdF.nil (L := []) (by decide)) (k99.rd (L := []) (by simp)) (by simp) (by simp [maxLen]) (by simp)) rfl rfl ?_
      rintro u107 W108 ⟨k109, b110, z111⟩
      have q114 := hag.2.1
      have l115 : b0 ≤ W98.heap.size := by omega
      have n117 : W4_.heap.size ≠ W98.heap.size := Nat.ne_of_lt k59.lt
      have l120 := hB.size
      replace hss := hss.more b110 (Nat.le_refl _)
      replace hpt := hpt.more b110 (Nat.le_refl _)
      replace hag := hag.more b110 (Nat.le_refl _)
      replace k3 := k3.below b110
      replace k59 := k59.below b110
      replace k82 := k82.below b110
      replace hB := below_then hB b110
      replace hL := LL.more hL z111
      refine Va (dx_fld (o1 := 3) rfl ty_fld_26_3_3 rfl rfl) rfl rfl ?_
      refine WL.do (dx_store (cs' := [.int .i64 6, .int .i64 0, .string ⟨#[]⟩, u107, .slice none 0 0]) (vs := [u107]) rfl ty_size_23_1 rfl rfl (oc_one k109.one) (oc_cons k109.one oc_nil) k59 rfl (Nat.le_of_ble_eq_true rfl) rfl) rfl ?_
      rintro _ W121 ⟨k123, o122⟩
      replace k3 := k3.other o122 n55
      replace k82 := k82.other o122 n78.symm
      replace k109 := k109.other o122 n117.symm
      clear k59
      replace hss := hss.only o122 (.tail _ (.tail _ (.tail _ (.head _))))
      replace hpt := hpt.only o122 (.tail _ (.tail _ (.tail _ (.head _))))
      replace hag := hag.only o122 (.tail _ (.tail _ (.tail _ (.head _))))
      replace hB := o122.below hB l56
      replace hL := LL.only hL o122
      refine Ni (hK97 (Rg (Va (dx_fld (o1 := 4) rfl ty_fld_26_4_4 rfl rfl) rfl rfl (Va (dx_load rfl ty_one_24 rfl (k123.cell (k := 4) rfl)) rfl rfl (Va (dx_fld (o1 := 1) rfl ty_fld_43_1_1 rfl rfl) rfl rfl (Va (dx_loadN (cs := [.int .i64 r69.2.kind, .int .i64 r69.2.num, .string r69.2.text, r69.2.nv, r69.2.iv]) rfl ty_agg_26_5 rfl (k82.part 1 5) rfl) rfl rfl ?_))))))
      refine Ge (dx_lit1 (r := [.int .i64 r69.2.kind, .int .i64 r69.2.num, .string r69.2.text, r69.2.nv, r69.2.iv]) rfl ty_ap_24 (by decide) (by decide) rfl rfl rfl) rfl rfl ?_
      rintro u128 W124 ⟨k125, b126, z127⟩
      have l134 := hB.size
      replace hss := hss.more b126 (Nat.le_refl _)
      replace hpt := hpt.more b126 (Nat.le_refl _)
      replace hag := hag.more b126 (Nat.le_refl _)
      replace k3 := k3.below b126
      replace k123 := k123.below b126
      replace k109 := k109.below b126
      replace hB := below_then hB b126
      replace hL := LL.more hL z127
      refine Ge (dx_apF (rs := []) (news := [encT r69.2]) rfl ty_ap_24 rfl rfl (RdF.nil (L := []) (by decide)) (k125.rd (L := []) (by simp)) (by simp) (by simp [maxLen]) (by simp)) rfl rfl ?_
      rintro u135 W136 ⟨k137, b138, z139⟩
      have q142 := hag.2.1
      have l143 : b0 ≤ W124.heap.size := by omega
      have n145 : W4_.heap.size ≠ W124.heap.size := Nat.ne_of_lt k123.lt
      have n148 : W98.heap.size ≠ W124.heap.size := Nat.ne_of_lt k109.lt
      have l150 := hB.size
      replace hss := hss.more b138 (Nat.le_refl _)
      replace hpt := hpt.more b138 (Nat.le_refl _)
      replace hag := hag.more b138 (Nat.le_refl _)
      replace k3 := k3.below b138
      replace k123 := k123.below b138
      replace k109 := k109.below b138
      replace hB := below_then hB b138
      replace hL := LL.more hL z139
      refine Va (dx_fld (o1 := 4) rfl ty_fld_26_4_4 rfl rfl) rfl rfl ?_
      refine WL.do (dx_store (cs' := [.int .i64 6, .int .i64 0, .string ⟨#[]⟩, u107, u135]) (vs := [u135]) rfl ty_size_24_1 rfl rfl (oc_one k137.one) (oc_cons k137.one oc_nil) k123 rfl (Nat.le_of_ble_eq_true rfl) rfl) rfl ?_
      rintro _ W151 ⟨k153, o152⟩
      replace k3 := k3.other o152 n55
      replace k109 := k109.other o152 n117.symm
      replace k137 := k137.other o152 n145.symm
      clear k123
      replace hss := hss.only o152 (.tail _ (.tail _ (.tail _ (.tail _ (.tail _ (.head _))))))
      replace hpt := hpt.only o152 (.tail _ (.tail _ (.tail _ (.tail _ (.tail _ (.head _))))))
      replace hag := hag.only o152 (.tail _ (.tail _ (.tail _ (.tail _ (.tail _ (.head _))))))
      replace hB := o152.below hB l56
      replace hL := LL.only hL o152
      refine Ni (hK67 (Rg (Va (dx_add (r := (i : Int) + 1) rfl rfl rfl (wrap64_id (by omega))) rfl rfl (Pu rfl (Ni ?_)))))
      have eN : [r69.1] = (nmA ss (i + 1)) := by rw [nmA_add e70]; rw [hns0]; rfl
      have eT : [r69.2] = (itA ss (i + 1)) := by rw [itA_add e70]; rw [hts0]; rfl
      have hts2 : RdTs (n + 1) (W98.heap.size :: W124.heap.size :: W4_.heap.size :: w.heap.size :: L) W151 [r69.2] := fun c hc_ => by
       simp only [List.mem_append, List.mem_singleton, or_assoc] at hc_
       have h_ := hc_
       (rw [h_]; exact (hpt r69.2 (List.mem_map.2 ⟨r69, List.mem_of_getElem? e70, rfl⟩)).less (fun x hx => by simp only [List.mem_cons] at hx ⊢; rcases hx with h_ | h_ | h_ <;> simp [h_]))
      have hm2 : MembI (n + 1) b0 (W4_.heap.size :: w.heap.size :: L) u107 (nmA ss (i + 1)) u135 (itA ss (i + 1)) W151 := ⟨hb0L, .inr ⟨W98.heap.size, W124.heap.size, n148, by omega, by omega, (by rw [← eN]; exact k109), (by rw [← eT]; exact k137), (by rw [← eT]; exact hts2)⟩⟩
      have hL_ := hL.less (fun x hx => (.tail _ (.tail _ (.tail _ (.tail _ (.tail _ hx))))))
      replace hag : AgL W57 (W4_.heap.size :: w.heap.size :: L) (W4_.heap.size :: w.heap.size :: L) W151 := ⟨fun _ h _ => h, hag.2⟩
      replace hss := hss6.agree hag.2
      replace hpt : RdTs (n + 1) (W4_.heap.size :: w.heap.size :: L) W151 (ss.map Prod.snd) := fun c hc_ => (hpt6 c hc_).agree hag.2
      replace hL := hL_
      exact hK62 (i + 1) u107 u135 ⟨(by omega), (rises_add hsw hr e70 hne), hB, hL, hss, hpt, hag, hm2, k3, k153⟩ (by omega) (by repeat first | exact trivial | exact And.intro rfl trivial | refine And.intro rfl ?_ | refine And.intro (congrArg (fun z : Int => some (Value.int .i64 z)) (by omega)) ?_)
   ·
    have n154 : Bn ≠ w.heap.size := by have := hb0L (w.heap.size) (.tail _ (.head _)); omega
    have n155 : Bi ≠ w.heap.size := by have := hb0L (w.heap.size) (.tail _ (.head _)); omega
    have n156 : Bn ≠ W4_.heap.size := by have := hb0L (W4_.heap.size) (.head _); omega
    have n157 : Bi ≠ W4_.heap.size := by have := hb0L (W4_.heap.size) (.head _); omega
    have lbn : w.heap.size ≤ Bn := by omega
    have lbi : w.heap.size ≤ Bi := by omega
    replace hag := (hag.add (B := Bi) (by omega)).add (B := Bn) (by omega)
    replace hL := LL.cons (LL.cons hL hOi.lt) hOn.lt
    replace hss := hag.rd hss6
    replace hpt : RdTs (n + 1) (Bn :: Bi :: W4_.heap.size :: w.heap.size :: L) W63 (ss.map Prod.snd) := fun c hc_ => hag.rt (hpt6 c hc_)
    refine Rg (Pu rfl ?_)
    obtain ⟨r158, e159⟩ : ∃ x, ss[i]? = some x := ⟨_, List.getElem?_eq_getElem (by omega)⟩
    refine Ge (dx_idxF i rfl ty_slice_40 rfl rfl hss (by omega) (at_mapX e159)) rfl rfl ?_
    rintro u160 _ ⟨rfl, p161⟩
    refine Va (dx_loadPN rfl ty_agg_43_6 rfl p161 rfl) rfl rfl ?_
    refine Ge (dx_alloc rfl ty_zero_43 rfl) rfl rfl ?_
    rintro _ W162 ⟨rfl, k163, b164, z165⟩
    have n166 : w.heap.size ≠ W63.heap.size := Nat.ne_of_lt k3.lt
    have n167 : W4_.heap.size ≠ W63.heap.size := Nat.ne_of_lt k59.lt
    have n168 : Bn ≠ W63.heap.size := Nat.ne_of_lt hOn.lt
    have n169 : Bi ≠ W63.heap.size := Nat.ne_of_lt hOi.lt
    have l170 := hB.size
    replace hss := hss.more b164 (Nat.le_refl _)
    replace hpt := hpt.more b164 (Nat.le_refl _)
    replace hag := hag.more b164 (Nat.le_refl _)
    replace hts := hts.more b164 (Nat.le_refl _)
    replace k3 := k3.below b164
    replace k59 := k59.below b164
    replace hOn := hOn.below b164
    replace hOi := hOi.below b164
    replace hB := below_then hB b164
    replace hL := LL.more hL z165
    refine Pu rfl ?_
    refine WL.do (dx_store (cs' := [.string r158.1, .int .i64 r158.2.kind, .int .i64 r158.2.num, .string r158.2.text, r158.2.nv, r158.2.iv]) (vs := [.string r158.1, .int .i64 r158.2.kind, .int .i64 r158.2.num, .string r158.2.text, r158.2.nv, r158.2.iv]) rfl ty_size_43_6 rfl rfl rfl (oc_cons rfl (oc_cons rfl (oc_cons rfl (oc_cons rfl (oc_cons ((hpt r158.2 (List.mem_map.2 ⟨r158, List.mem_of_getElem? e159, rfl⟩)).1).one (oc_cons ((hpt r158.2 (List.mem_map.2 ⟨r158, List.mem_of_getElem? e159, rfl⟩)).2.1).one oc_nil)))))) k163 rfl (Nat.le_of_ble_eq_true rfl) rfl) rfl ?_
    rintro _ W171 ⟨k173, o172⟩
    replace k3 := k3.other o172 n166
    replace k59 := k59.other o172 n167
    replace hOn := hOn.other o172 n168
    replace hOi := hOi.other o172 n169
    clear k163
    replace hss := hss.only o172 (.head _)
    replace hpt := hpt.only o172 (.head _)
    replace hag := hag.only o172 (.head _)
    replace hts := hts.only o172 (.head _)
    replace hB := o172.below hB l170
    replace hL := LL.only hL o172
    refine Ni (hK68 (Sq fun K174 hK174 => (Sq fun K175 hK175 => ?_)))
    obtain ⟨b176, hb176⟩ : ∃ b, b = (decide (0 < (i : Int))) := ⟨_, rfl⟩
    obtain ⟨r177, e178⟩ : ∃ x, ss[(i - 1)]? = some x := ⟨_, List.getElem?_eq_getElem (by omega)⟩
    refine WC.drawM 13 [(some 41, .is (.int .i64 (i : Int))), (some 42, .is (.bool (decide (0 < (i : Int))))), (some 43, .is (.bool b176)), (some 44, .is (bif b176 then u3 else undef)), (some 45, .is (bif b176 then .int .i64 (i : Int) else undef)), (some 46, .is (bif b176 then .int .i64 ((i : Int) - 1) else undef)), (some 47, .by fun u W => b176 = true → PtR (W63.heap.size :: Bn :: Bi :: W4_.heap.size :: w.heap.size :: L) W u (encP r177)), (some 48, .by fun u W => b176 = true → PtR (W63.heap.size :: Bn :: Bi :: W4_.heap.size :: w.heap.size :: L) W u [.string r177.1]), (some 49, .is (bif b176 then .string r177.1 else undef)), (some 50, .is (bif b176 then .pointer (some ⟨W63.heap.size, 0, none⟩) else undef)), (some 51, .is (bif b176 then .string r158.1 else undef)), (some 52, .is (bif b176 then .bool (decide (r177.1 = r158.1)) else undef)), (some 53, .is (.bool (b176 && (decide (r177.1 = r158.1)))))] [[], [0], [1], [2], [2], [4, 2], [3, 5, 2], [6, 2], [7, 2], [2], [9, 2], [8, 10, 2], [2, 11]] (by kernel_rfl) (by kernel_rfl) (by kernel_rfl) (by kernel_rfl) (by kernel_rfl) (by kernel_rfl) (by kernel_rfl) ⟨fun _ _ _ hb h g => (h g).below hb, fun _ _ _ hb h g => (h g).below hb, trivial⟩ ?_ ?_
    ·
     refine Dc (fun Wd hd => ?_) ?_
     ·
      exact Dd (dx_move rfl rfl) rfl
     refine Dc (fun Wd hd => ?_) ?_
     ·
      exact Dd (dx_gtr rfl rfl rfl) rfl
     refine Dc (fun Wd hd => ?_) ?_
     ·
      exact DV.dr (dx_move rfl rfl) ⟨Below.refl _ _, by rw [hb176]; rfl⟩
     refine Dc (fun Wd hd => ?_) ?_
     ·
      cases b176
      ·
       exact Dd (dv_off rfl) rfl
      ·
       exact Dd (dx_move rfl rfl) rfl
     refine Dc (fun Wd hd => ?_) ?_
     ·
      cases b176
      ·
       exact Dd (dv_off rfl) rfl
      ·
       exact Dd (dx_move rfl rfl) rfl
     refine Dc (fun Wd hd => ?_) ?_
     ·
      cases b176
      ·
       exact Dd (dv_off rfl) rfl
      ·
       exact Dd (dx_sub (r := (i : Int) - 1) rfl rfl rfl (wrap64_id (by omega))) rfl
     refine Dc (fun Wd hd => ?_) ?_
     ·
      cases b176
      ·
       exact DV.dr (dv_off rfl) ⟨Below.refl _ _, fun h => by cases h⟩
      ·
       have hss := hss.below hd
       exact (dx_idxF (i - 1) rfl ty_slice_40 rfl rfl hss (by first | omega | (have hq_ := of_decide_eq_true hb176.symm; omega)) (at_mapX e178)).mono (fun v W' h => ⟨by rw [← h.1]; exact Below.refl _ _, fun _ => by rw [← h.1]; exact h.2⟩)
     refine Dc (fun Wd hd => ?_) ?_
     ·
      intro u13_6 p13_6
      cases b176
      ·
       exact DV.dr (dv_off rfl) ⟨Below.refl _ _, fun h => by cases h⟩
      ·
       replace p13_6 := p13_6 rfl
       exact (dx_fldP 1 rfl ty_fld_43_0_0 rfl p13_6 (cs' := [.string r177.1]) rfl (Nat.succ_pos _)).mono (fun v W' h => ⟨by rw [← h.1]; exact Below.refl _ _, fun _ => by rw [← h.1]; exact h.2⟩)
     refine Dc (fun Wd hd => ?_) ?_
     ·
      intro u13_7 p13_7
      cases b176
      ·
       exact Dd (dv_off rfl) rfl
      ·
       replace p13_7 := p13_7 rfl
       exact Dd (dx_loadP rfl ty_one_9 rfl p13_7) rfl
     refine Dc (fun Wd hd => ?_) ?_
     ·
      cases b176
      ·
       exact Dd (dv_off rfl) rfl
      ·
       exact Dd (dx_fld (o1 := 0) rfl ty_fld_43_0_0 rfl rfl) rfl
     refine Dc (fun Wd hd => ?_) ?_
     ·
      cases b176
      ·
       exact Dd (dv_off rfl) rfl
      ·
       have k173 := k173.below hd
       exact Dd (dx_load rfl ty_one_9 rfl (k173.cell (k := 0) rfl)) rfl
     refine Dc (fun Wd hd => ?_) ?_
     ·
      cases b176
      ·
       exact Dd (dv_off rfl) rfl
      ·
       exact Dd (dx_eqlT rfl rfl rfl) rfl
     refine Dc (fun Wd hd => ?_) ?_
     ·
      cases b176
      ·
       exact Dd (dx_pick rfl rfl rfl) rfl
      ·
       exact Dd (dx_pick rfl rfl rfl) rfl
     exact trivial
    ·
     intro W179 b180
     intro _ _
     intro _ _
     replace hss := hss.below b180
     replace hpt := hpt.below b180
     replace hag := hag.below b180
     replace hts := hts.below b180
     replace k3 := k3.below b180
     replace k59 := k59.below b180
     replace hOn := hOn.below b180
     replace hOi := hOi.below b180
     replace k173 := k173.below b180
     replace hB := below_then hB b180
     replace hL := LL.below hL b180
     refine Ni (hK175 ?_)
     refine WC.cond rfl (fun c181 => ?_) (fun c181 => ?_)
     ·
      obtain ⟨g182, g183⟩ := band_t c181
      replace g183 := dT g183
      refine Sq fun K184 hK184 => (Rg (Va (dx_build rfl rfl (built_of_O (cs := zV) (by kernel_rfl) oc_nil)) rfl rfl ?_))
      refine WL.do (dx_store (cs' := zV) (vs := zV) rfl ty_size_26_5 rfl rfl rfl (oc_cons rfl (oc_cons rfl (oc_cons rfl (oc_cons rfl (oc_cons rfl oc_nil))))) k3 rfl (Nat.le_of_ble_eq_true rfl) rfl) rfl ?_
      rintro _ W185 ⟨k187, o186⟩
      clear k3
      replace hB := o186.below hB l6
      refine Pu rfl (Ni (hK184 ?_))
      exact WC.ret fun a_ ha_ => hQ (cv_ret2 rfl (.agg rfl ty_agg_26_5 k187.range rfl) (.tmp rfl) (.inr ⟨6, rfl, by decide, hmp.trans (make_6 hoks (dup_not (by simp_all) e159 e178 (by simp_all)))⟩) hB ha_)
     ·
      refine WC.skip (hK174 (Sq fun K188 hK188 => ?_))
      have hne : 0 < i → ∀ q, ss[i - 1]? = some q → q.1 ≠ r158.1 := fun h0_ q hq e_ => by rw [e178] at hq; cases hq; simp_all
      refine Rg (Va (dx_fld (o1 := 3) rfl ty_fld_26_3_3 rfl rfl) rfl rfl (Va (dx_load rfl ty_one_23 rfl (k59.cell (k := 3) rfl)) rfl rfl (Va (dx_fld (o1 := 0) rfl ty_fld_43_0_0 rfl rfl) rfl rfl (Va (dx_load rfl ty_one_9 rfl (k173.cell (k := 0) rfl)) rfl rfl ?_))))
      refine Ge (dx_lit1 (r := [.string r158.1]) rfl ty_ap_23 (by decide) (by decide) rfl rfl rfl) rfl rfl ?_
      rintro u193 W189 ⟨k190, b191, z192⟩
      have l199 := hB.size
      replace hss := hss.more b191 (Nat.le_refl _)
      replace hpt := hpt.more b191 (Nat.le_refl _)
      replace hag := hag.more b191 (Nat.le_refl _)
      replace hts := hts.more b191 (Nat.le_refl _)
      replace k3 := k3.below b191
      replace k59 := k59.below b191
      replace hOn := hOn.below b191
      replace hOi := hOi.below b191
      replace k173 := k173.below b191
      replace hB := below_then hB b191
      replace hL := LL.more hL z192
      refine Ge (dx_apO' (rs := ((nmA ss i).map eS)) (news := [eS r158.1]) rfl ty_ap_23 rfl rfl hOn (k190.rd (L := []) (by simp)) (fun r hr => by rw [List.mem_singleton.1 hr]; exact (oc_cons rfl oc_nil)) (by simp only [List.length_map, List.length_append, List.length_cons, List.length_nil]; unfold maxLen; omega) (by simp only [List.length_map, List.length_append, List.length_cons, List.length_nil]; omega)) rfl rfl ?_
      rintro u200 W201 ⟨B206, k202, g205⟩
      rw [show ((nmA ss i).map eS) ++ [eS r158.1] = (((nmA ss i) ++ [r158.1]).map eS) from by simp only [List.map_append, List.map_cons, List.map_nil]] at k202
      have q208 := hag.2.1
      have l209 : b0 ≤ B206 := g205.le hbn (by omega)
      have n211 : W4_.heap.size ≠ B206 := k59.grow_ne g205 n156.symm
      have n212 : Bi ≠ B206 := hOi.grow_ne g205 hni.symm
      have l207 := g205.le lbn hB.size
      replace hss := hss.grow' g205 (.tail _ (.tail _ (.head _)))
      replace hpt := hpt.grow' g205 (.tail _ (.tail _ (.head _)))
      replace hag := hag.grow' g205 (.tail _ (.tail _ (.head _)))
      replace hts := hts.grow' g205 (.tail _ (.tail _ (.head _)))
      replace k3 := k3.grow g205 n154.symm
      replace k59 := k59.grow g205 n156.symm
      replace hOi := hOi.grow g205 hni.symm
      replace k173 := k173.grow g205 n168.symm
      replace hB := g205.below hB lbn hB.size
      replace hL := LL.grow hL g205 k202.lt
      refine Va (dx_fld (o1 := 3) rfl ty_fld_26_3_3 rfl rfl) rfl rfl ?_
      refine WL.do (dx_store (cs' := [.int .i64 6, .int .i64 0, .string ⟨#[]⟩, u200, iv]) (vs := [u200]) rfl ty_size_23_1 rfl rfl (oc_one k202.one) (oc_cons k202.one oc_nil) k59 rfl (Nat.le_of_ble_eq_true rfl) rfl) rfl ?_
      rintro _ W215 ⟨k217, o216⟩
      replace k3 := k3.other o216 n55
      replace hOi := hOi.other o216 n157
      replace k173 := k173.other o216 n167.symm
      replace k202 := k202.other o216 n211.symm
      clear k59
      replace hss := hss.only o216 (.tail _ (.tail _ (.tail _ (.tail _ (.tail _ (.head _))))))
      replace hpt := hpt.only o216 (.tail _ (.tail _ (.tail _ (.tail _ (.tail _ (.head _))))))
      replace hag := hag.only o216 (.tail _ (.tail _ (.tail _ (.tail _ (.tail _ (.head _))))))
      replace hts := hts.only o216 (.tail _ (.tail _ (.tail _ (.tail _ (.tail _ (.head _))))))
      replace hB := o216.below hB l56
      replace hL := LL.only hL o216
      refine Ni (hK188 (Rg (Va (dx_fld (o1 := 4) rfl ty_fld_26_4_4 rfl rfl) rfl rfl (Va (dx_load rfl ty_one_24 rfl (k217.cell (k := 4) rfl)) rfl rfl (Va (dx_fld (o1 := 1) rfl ty_fld_43_1_1 rfl rfl) rfl rfl (Va (dx_loadN (cs := [.int .i64 r158.2.kind, .int .i64 r158.2.num, .string r158.2.text, r158.2.nv, r158.2.iv]) rfl ty_agg_26_5 rfl (k173.part 1 5) rfl) rfl rfl ?_))))))
      refine Ge (dx_lit1 (r := [.int .i64 r158.2.kind, .int .i64 r158.2.num, .string r158.2.text, r158.2.nv, r158.2.iv]) rfl ty_ap_24 (by decide) (by decide) rfl rfl rfl) rfl rfl ?_
      rintro u222 W218 ⟨k219, b220, z221⟩
      have l229 := hB.size
      replace hss := hss.more b220 (Nat.le_refl _)
      replace hpt := hpt.more b220 (Nat.le_refl _)
      replace hag := hag.more b220 (Nat.le_refl _)
      replace hts := hts.more b220 (Nat.le_refl _)
      replace k3 := k3.below b220
      replace k217 := k217.below b220
      replace hOi := hOi.below b220
      replace k202 := k202.below b220
      replace hB := below_then hB b220
      replace hL := LL.more hL z221
      refine Ge (dx_apO' (rs := ((itA ss i).map encT)) (news := [encT r158.2]) rfl ty_ap_24 rfl rfl hOi (k219.rd (L := []) (by simp)) (fun r hr => by rw [List.mem_singleton.1 hr]; exact (hpt r158.2 (List.mem_map.2 ⟨r158, List.mem_of_getElem? e159, rfl⟩)).oc) (by simp only [List.length_map, List.length_append, List.length_cons, List.length_nil]; unfold maxLen; omega) (by simp only [List.length_map, List.length_append, List.length_cons, List.length_nil]; omega)) rfl rfl ?_
      rintro u230 W231 ⟨B236, k232, g235⟩
      rw [show ((itA ss i).map encT) ++ [encT r158.2] = (((itA ss i) ++ [r158.2]).map encT) from by simp only [List.map_append, List.map_cons, List.map_nil]] at k232
      have q238 := hag.2.1
      have l239 : b0 ≤ B236 := g235.le hbi (by omega)
      have n241 : W4_.heap.size ≠ B236 := k217.grow_ne g235 n157.symm
      have n244 : B206 ≠ B236 := k202.grow_ne g235 n212.symm
      have l237 := g235.le lbi hB.size
      replace hss := hss.grow' g235 (.tail _ (.tail _ (.tail _ (.tail _ (.tail _ (.head _))))))
      replace hpt := hpt.grow' g235 (.tail _ (.tail _ (.tail _ (.tail _ (.tail _ (.head _))))))
      replace hag := hag.grow' g235 (.tail _ (.tail _ (.tail _ (.tail _ (.tail _ (.head _))))))
      replace hts := hts.grow' g235 (.tail _ (.tail _ (.tail _ (.tail _ (.tail _ (.head _))))))
      replace k3 := k3.grow g235 n155.symm
      replace k217 := k217.grow g235 n157.symm
      replace k202 := k202.grow g235 n212.symm
      replace hB := g235.below hB lbi hB.size
      replace hL := LL.grow hL g235 k232.lt
      refine Va (dx_fld (o1 := 4) rfl ty_fld_26_4_4 rfl rfl) rfl rfl ?_
      refine WL.do (dx_store (cs' := [.int .i64 6, .int .i64 0, .string ⟨#[]⟩, u200, u230]) (vs := [u230]) rfl ty_size_24_1 rfl rfl (oc_one k232.one) (oc_cons k232.one oc_nil) k217 rfl (Nat.le_of_ble_eq_true rfl) rfl) rfl ?_
      rintro _ W246 ⟨k248, o247⟩
      replace k3 := k3.other o247 n55
      replace k202 := k202.other o247 n211.symm
      replace k232 := k232.other o247 n241.symm
      clear k217
      replace hss := hss.only o247 (.tail _ (.tail _ (.tail _ (.tail _ (.tail _ (.tail _ (.tail _ (.head _))))))))
      replace hpt := hpt.only o247 (.tail _ (.tail _ (.tail _ (.tail _ (.tail _ (.tail _ (.tail _ (.head _))))))))
      replace hag := hag.only o247 (.tail _ (.tail _ (.tail _ (.tail _ (.tail _ (.tail _ (.tail _ (.head _))))))))
      replace hts := hts.only o247 (.tail _ (.tail _ (.tail _ (.tail _ (.tail _ (.tail _ (.tail _ (.head _))))))))
      replace hB := o247.below hB l56
      replace hL := LL.only hL o247
      refine Ni (hK67 (Rg (Va (dx_add (r := (i : Int) + 1) rfl rfl rfl (wrap64_id (by omega))) rfl rfl (Pu rfl (Ni ?_)))))
      have eN : ((nmA ss i) ++ [r158.1]) = (nmA ss (i + 1)) := by rw [nmA_add e159]
      have eT : ((itA ss i) ++ [r158.2]) = (itA ss (i + 1)) := by rw [itA_add e159]
      have hts2 : RdTs (n + 1) (B206 :: B236 :: W4_.heap.size :: w.heap.size :: L) W246 ((itA ss i) ++ [r158.2]) := fun c hc_ => by
       simp only [List.mem_append, List.mem_singleton, or_assoc] at hc_
       rcases hc_ with h_ | h_
       · exact (hts c h_).less (fun x hx => by simp only [List.mem_cons] at hx ⊢; rcases hx with h_ | h_ | h_ <;> simp [h_])
       · (rw [h_]; exact (hpt r158.2 (List.mem_map.2 ⟨r158, List.mem_of_getElem? e159, rfl⟩)).less (fun x hx => by simp only [List.mem_cons] at hx ⊢; rcases hx with h_ | h_ | h_ <;> simp [h_]))
      have hm2 : MembI (n + 1) b0 (W4_.heap.size :: w.heap.size :: L) u200 (nmA ss (i + 1)) u230 (itA ss (i + 1)) W246 := ⟨hb0L, .inr ⟨B206, B236, n244, by omega, by omega, (by rw [← eN]; exact k202), (by rw [← eT]; exact k232), (by rw [← eT]; exact hts2)⟩⟩
      have hL_ := hL.less (fun x hx => (.tail _ (.tail _ (.tail _ (.tail _ (.tail _ (.tail _ (.tail _ hx))))))))
      replace hag : AgL W57 (W4_.heap.size :: w.heap.size :: L) (W4_.heap.size :: w.heap.size :: L) W246 := ⟨fun _ h _ => h, hag.2⟩
      replace hss := hss6.agree hag.2
      replace hpt : RdTs (n + 1) (W4_.heap.size :: w.heap.size :: L) W246 (ss.map Prod.snd) := fun c hc_ => (hpt6 c hc_).agree hag.2
      replace hL := hL_
      exact hK62 (i + 1) u200 u230 ⟨(by omega), (rises_add hsw hr e159 hne), hB, hL, hss, hpt, hag, hm2, k3, k248⟩ (by omega) (by repeat first | exact trivial | exact And.intro rfl trivial | refine And.intro rfl ?_ | refine And.intro (congrArg (fun z : Int => some (Value.int .i64 z)) (by omega)) ?_)
  ·
   replace c66 := dF c66
   refine WC.exit ?_
   refine hK60 (Sq fun K249 hK249 => (Sq fun K250 hK250 => ?_))
   have hie : i = ss.length := by omega
   have hfz := foldZ_rises (ps := ss.map erP) (by rw [← nmA_all hie]; exact hr)
   refine Rg (Va (dx_loadN rfl ty_agg_26_5 rfl k59.range rfl) rfl rfl ?_)
   refine Ge (dx_cv rfl Try.func20 rfl rfl rfl (deepMk_v n _ _ nv iv W63 _ hL (hm.tree (fun x hx => hx) 6 0 ⟨#[]⟩))) rfl rfl ?_
   rintro _ W252 ⟨⟨dd, rfl, hdd⟩, b251⟩
   replace hm := hm.below b251
   replace k3 := k3.below b251
   replace k59 := k59.below b251
   replace hB := below_then hB b251
   refine Va (dx_gtr rfl rfl rfl) rfl rfl (Ni (hK250 ?_))
   refine WC.cond rfl (fun c253 => ?_) (fun c253 => ?_)
   ·
    replace c253 := dT c253
    refine Sq fun K254 hK254 => (Rg (Va (dx_build rfl rfl (built_of_O (cs := zV) (by kernel_rfl) oc_nil)) rfl rfl ?_))
    refine WL.do (dx_store (cs' := zV) (vs := zV) rfl ty_size_26_5 rfl rfl rfl (oc_cons rfl (oc_cons rfl (oc_cons rfl (oc_cons rfl (oc_cons rfl oc_nil))))) k3 rfl (Nat.le_of_ble_eq_true rfl) rfl) rfl ?_
    rintro _ W255 ⟨k257, o256⟩
    clear k3
    replace hB := o256.below hB l6
    refine Pu rfl (Ni (hK254 ?_))
    exact WC.ret fun a_ ha_ => hQ (cv_ret2 rfl (.agg rfl ty_agg_26_5 k257.range rfl) (.tmp rfl) (.inr ⟨4, rfl, by decide, hmp.trans (by obtain ⟨x_, hx_, hd_⟩ := hdd.1 (by omega); unfold itA at hx_; rw [hie, List.take_length] at hx_; obtain ⟨q_, hq_, rfl⟩ := List.mem_map.1 hx_; obtain ⟨k_, hk_⟩ := List.mem_iff_getElem?.1 hq_; exact make_4 hoks hfz hk_ hd_)⟩) hB ha_)
   ·
    replace c253 := dF c253
    refine WC.skip (hK249 (Sq fun K258 hK258 => (Rg (Va (dx_loadN rfl ty_agg_26_5 rfl k59.range rfl) rfl rfl ?_))))
    refine WL.do (dx_store (cs' := [.int .i64 6, .int .i64 0, .string ⟨#[]⟩, nv, iv]) (vs := [.int .i64 6, .int .i64 0, .string ⟨#[]⟩, nv, iv]) rfl ty_size_26_5 rfl rfl rfl (oc_cons rfl (oc_cons rfl (oc_cons rfl (oc_cons hm.one.1 (oc_cons hm.one.2 oc_nil))))) k3 rfl (Nat.le_of_ble_eq_true rfl) rfl) rfl ?_
    rintro _ W259 ⟨k261, o260⟩
    clear k3
    replace hm := hm.only o260 (.tail _ (.head _))
    replace hB := o260.below hB l6
    refine Pu rfl (Ni (hK258 ?_))
    exact WC.ret fun a_ ha_ => hQ (cv_ret2 rfl (.agg rfl ty_agg_26_5 k261.range rfl) (.tmp rfl) (.inl ⟨.mk 6 0 ⟨#[]⟩ nv (nmA ss i) iv (itA ss i), n + 1, rfl, hmp.trans (by rw [Tr.er_mk, nmA_all hie, itA_all hie]; exact make_k hoks hfz (fun j p hj hp hd_ => by have := hdd.2 ⟨p.2, by unfold itA; rw [hie, List.take_length]; exact List.mem_map.2 ⟨p, List.mem_of_getElem? hp, rfl⟩, hd_⟩; omega)), hm.tree (fun x hx => (.tail _ (.tail _ hx))) 6 0 ⟨#[]⟩⟩) hB ha_)


def WeiP (n : Nat) (t : Tr) (u : Value) (_ : World) : Prop := ∃ z : Int, u = .int .i64 z ∧ 1 ≤ z ∧ z ≤ 3003 ∧ (z ≤ 1000 → SzT 1000 n t)
theorem WeiP.below {n : Nat} {t : Tr} {u : Value} {w w' : World} (h : WeiP n t u w) (_ : Below w.heap.size w w') : WeiP n t u w' := h
def WeiQ (n : Nat) (t : Tr) (m : Int) (u : Value) (_ : World) : Prop := ∃ z : Int, u = .int .i64 (z + m) ∧ 1 ≤ z ∧ z ≤ 3003 ∧ (z ≤ 1000 → SzT 1000 n t)
theorem WeiQ.below {n : Nat} {t : Tr} {m : Int} {u : Value} {w w' : World} (h : WeiQ n t m u w) (_ : Below w.heap.size w w') : WeiQ n t m u w' := h
theorem weighP_v (n : Nat) (t : Tr) (w : World) (L : List Nat) (hL : LL L w) (h : RdT (n + 1) L w t) : CV Try.prog 28 [.agg #[.int .i64 t.kind, .int .i64 t.num, .string t.text, t.nv, t.iv], .int .i64 1000] w fun v W => WeiP (n + 1) t v W :=
 weigh_all (n + 1) t 1000 w L hL h (by decide)
def MkR (x : Except Int Js) (t : Tr) (e : Int) : Prop := (e = 0 ∧ x = .ok t.er) ∨ (e ≠ 0 ∧ x = .error e ∧ t = tNil 0)
theorem mkR_same {x : Except Int Js} {t u : Tr} {e f : Int} (h : MkR x t e) (k : MkR x u f) : e = f ∧ t.er = u.er := by
 rcases h with ⟨rfl, h⟩ | ⟨h0, h, rfl⟩ <;> rcases k with ⟨rfl, k⟩ | ⟨k0, k, rfl⟩
 · rw [h] at k; exact ⟨rfl, Except.ok.inj k⟩
 · rw [h] at k; cases k
 · rw [h] at k; cases k
 · rw [h] at k; exact ⟨Except.error.inj k, rfl⟩
theorem jMk_u (n : Nat) (ps : List PT) (gv : Value) (w : World) (L : List Nat) (hL : LL L w) (hgv : RdF 6 L w gv (ps.map encP)) (hps : RdTs (n + 1) L w (ps.map Prod.snd)) (hlen : ps.length ≤ 1000000) (hzs : ∀ p ∈ ps, SzT 1000000 (n + 1) p.2 ∧ p.1.size ≤ 1000000) : CV Try.prog 29 [gv] w fun v W => ∃ (t : Tr) (m : Nat) (e : Int), v = .tuple #[.agg #[.int .i64 t.kind, .int .i64 t.num, .string t.text, t.nv, t.iv], .int .i64 e] ∧ MkR (makeJ (ps.map erP)) t e ∧ RdT (m + 1) L W t :=
 (jMake_v n ps gv w L hL hgv hps hlen hzs).mono fun v W _ k => by
  rcases k with ⟨t, m, e1, e2, e3⟩ | ⟨e, e1, e0, e2⟩
  · exact ⟨t, m, 0, e1, .inl ⟨rfl, e2⟩, e3⟩
  · exact ⟨tNil 0, 0, e, e1, .inr ⟨e0, e2, rfl⟩, tNil_rd _ _ _ _⟩
theorem rev_row {ps : List PT} {i : Nat} {r : PT} (h : ps[i]? = some r) : [encP r] ++ ((ps.take i).reverse.map encP) = ((ps.take (i + 1)).reverse.map encP) := by
 rw [List.take_add_one, h, List.reverse_append, List.map_append]; rfl
theorem rev_mk (ps : List PT) : makeJ (ps.reverse.map erP) = makeJ (ps.map erP) := makeJ_perm ((List.reverse_perm ps).map erP)
set_option maxHeartbeats 1000000 in
theorem JsonTurned_v (n : Nat) (ps : List PT) (gv : Value) (w : World) (L : List Nat) (hL : LL L w) (hgv : RdF 6 L w gv (ps.map encP)) (hps : RdTs (n + 1) L w (ps.map Prod.snd)) : CV Try.prog 10 [gv] w fun v W => v = .bool true := by
 refine cv_enter (N := 68) (f := [(0, gv)]) Try.func10 rfl rfl rfl rfl fun Q hQ hE => ?_
 have hB := Below.refl w.heap.size w
 have hL0 := hL
 have hgvm : ps.length ≤ maxLen := by have := hgv.len; rwa [List.length_map] at this
 unfold maxLen at hgvm
 refine Sq fun K1 hK1 => (Rg (Pu rfl (Ni (hK1 (Sq fun K2 hK2 => (Sq fun K3 hK3 => (Rg ?_)))))))
 refine Ge (dx_cv rfl Try.func11 rfl rfl rfl (alive_v w _ hL)) rfl rfl ?_
 rintro _ W5 ⟨rfl, b4⟩
 replace hgv := hgv.below b4
 replace hps := hps.below b4
 replace hB := below_then hB b4
 replace hL := LL.below hL b4
 refine Va (dx_not rfl rfl) rfl rfl (Ni (hK3 (WC.condF rfl (WC.skip (hK2 (Sq fun K6 hK6 => (Sq fun K7 hK7 => ?_)))))))
 refine Rg (Pu rfl (Va (dx_lenFM rfl ty_slice_40 rfl hgv) rfl rfl (Va (dx_gtr rfl rfl rfl) rfl rfl (Ni (hK7 ?_)))))
 refine WC.cond rfl (fun c8 => ?_) (fun c8 => ?_)
 ·
  replace c8 := dT c8
  refine Sq fun K9 hK9 => (Rg (Pu rfl (Ni (hK9 ?_))))
  exact WC.ret fun a_ ha_ => hQ (cv_ret1 rfl (.tmp rfl) rfl hB ha_)
 ·
  replace c8 := dF c8
  refine WC.skip (hK6 (Sq fun K10 hK10 => (Rg (Pu rfl (Ni (hK10 (Sq fun K11 hK11 => ?_)))))))
  refine Rg (Pu rfl (Ni (hK11 (Sq fun K12 hK12 => (Sq fun K13 hK13 => (Rg (Pu rfl ?_)))))))
  refine Ni (hK13 (WC.block ?_))
  have htv : RdF 6 (L) W5 (.slice none 0 0) ((ps.take 0).reverse.map encP) := RdF.nil (by decide)
  refine WC.loop3 (fun (i : Nat) (tot : Int) (tv : Value) => [(0, gv), (5, .int .i64 (i : Int)), (3, .int .i64 tot), (4, tv)]) (fun (i : Nat) (tot : Int) (tv : Value) W => i ≤ ps.length ∧ 0 ≤ tot ∧ tot ≤ 5003 * (i : Int) ∧ (tot ≤ 1000 → ∀ k a, k < i → ps[k]? = some a → SzT 1000 (n + 1) a.2 ∧ a.1.size ≤ 1000) ∧ Below w.heap.size w W ∧ LL (L) W ∧ RdF 6 (L) W gv (ps.map encP) ∧ RdTs (n + 1) (L) W (ps.map Prod.snd) ∧ RdF 6 (L) W tv ((ps.take i).reverse.map encP)) (fun (i : Nat) (tot : Int) (tv : Value) => ps.length - i) 0 0 (.slice none 0 0) (by repeat first | exact trivial | exact And.intro rfl trivial | refine And.intro rfl ?_ | refine And.intro (congrArg (fun z : Int => some (Value.int .i64 z)) (by omega)) ?_) ⟨Nat.zero_le _, (by omega), (by omega), (fun _ k a hk => by omega), hB, hL, hgv, hps, htv⟩ ?_
  clear hgv hps htv hB hL
  rintro K14 i tot tv W15 ⟨hi, hz0, hz1, hs, hB, hL, hgv, hps, htv⟩ hK14
  refine Sq fun K16 hK16 => (Sq fun K17 hK17 => (Rg (Pu rfl (Pu rfl (Va (dx_lenFM rfl ty_slice_40 rfl hgv) rfl rfl (Va (dx_lss rfl rfl rfl) rfl rfl (Pu rfl ?_)))))))
  refine WL.split 19 rfl (fun g18 => ?_) (fun g18 => ?_)
  ·
   replace g18 := dT g18
   refine Pu rfl (Va (dx_leq rfl rfl rfl) rfl rfl (Pu rfl (Ni (hK17 ?_))))
   refine WC.cond rfl (fun c19 => ?_) (fun c19 => ?_)
   ·
    replace c19 := dT c19
    refine WC.skip (hK16 (Sq fun K20 hK20 => (WC.block (Sq fun K21 hK21 => ?_))))
    obtain ⟨r22, e23⟩ : ∃ x, ps[i]? = some x := ⟨_, List.getElem?_eq_getElem (by omega)⟩
    refine WC.drawM 15 [(some 25, .is (.int .i64 tot)), (some 26, .is (gv)), (some 27, .is (.int .i64 (i : Int))), (some 28, .by fun u W => PtR (L) W u (encP r22)), (some 29, .by fun u W => PtR (L) W u [.int .i64 r22.2.kind, .int .i64 r22.2.num, .string r22.2.text, r22.2.nv, r22.2.iv]), (some 30, .is (.agg #[.int .i64 r22.2.kind, .int .i64 r22.2.num, .string r22.2.text, r22.2.nv, r22.2.iv])), (some 31, .by fun u W => WeiP (n + 1) r22.2 u W), (some 32, .is (gv)), (some 33, .is (.int .i64 (i : Int))), (some 34, .by fun u W => PtR (L) W u (encP r22)), (some 35, .by fun u W => PtR (L) W u [.string r22.1]), (some 36, .is (.string r22.1)), (some 37, .is (.int .i64 ((r22.1).size : Int))), (some 38, .is (.int .i64 (if 2000 < ((r22.1).size : Int) then 2000 else ((r22.1).size : Int)))), (some 39, .by fun u W => WeiQ (n + 1) r22.2 (if 2000 < ((r22.1).size : Int) then 2000 else ((r22.1).size : Int)) u W)] [[], [], [], [1, 2], [3], [4], [5], [], [], [7, 8], [9], [10], [11], [12], [6, 13]] (by kernel_rfl) (by kernel_rfl) (by kernel_rfl) (by kernel_rfl) (by kernel_rfl) (by kernel_rfl) (by kernel_rfl) ⟨fun _ _ _ hb h => h.below hb, fun _ _ _ hb h => h.below hb, fun _ _ _ hb h => h.below hb, fun _ _ _ hb h => h.below hb, fun _ _ _ hb h => h.below hb, fun _ _ _ hb h => h.below hb, trivial⟩ ?_ ?_
    ·
     refine Dc (fun Wd hd => ?_) ?_
     ·
      exact Dd (dx_move rfl rfl) rfl
     refine Dc (fun Wd hd => ?_) ?_
     ·
      exact Dd (dx_move rfl rfl) rfl
     refine Dc (fun Wd hd => ?_) ?_
     ·
      exact Dd (dx_move rfl rfl) rfl
     refine Dc (fun Wd hd => ?_) ?_
     ·
      have hgv := hgv.below hd
      exact (dx_idxF i rfl ty_slice_40 rfl rfl hgv (by omega) (at_mapX e23)).mono (fun v W' h => ⟨by rw [← h.1]; exact Below.refl _ _, by rw [← h.1]; exact h.2⟩)
     refine Dc (fun Wd hd => ?_) ?_
     ·
      intro u10_3 p10_3
      exact (dx_fldP 5 rfl ty_fld_43_1_1 rfl p10_3 (cs' := [.int .i64 r22.2.kind, .int .i64 r22.2.num, .string r22.2.text, r22.2.nv, r22.2.iv]) rfl (Nat.succ_pos _)).mono (fun v W' h => ⟨by rw [← h.1]; exact Below.refl _ _, by rw [← h.1]; exact h.2⟩)
     refine Dc (fun Wd hd => ?_) ?_
     ·
      intro u10_4 p10_4
      exact Dd (dx_loadPN rfl ty_agg_26_5 rfl p10_4 rfl) rfl
     refine Dc (fun Wd hd => ?_) ?_
     ·
      have hps := hps.below hd
      exact DR.mono (dx_cv rfl Try.func28 rfl rfl rfl (weighP_v n r22.2 Wd _ (LL.below hL hd) (hps r22.2 (List.mem_map.2 ⟨r22, List.mem_of_getElem? e23, rfl⟩)))) (fun v W' h => ⟨h.2, h.1⟩)
     refine Dc (fun Wd hd => ?_) ?_
     ·
      exact Dd (dx_move rfl rfl) rfl
     refine Dc (fun Wd hd => ?_) ?_
     ·
      exact Dd (dx_move rfl rfl) rfl
     refine Dc (fun Wd hd => ?_) ?_
     ·
      have hgv := hgv.below hd
      exact (dx_idxF i rfl ty_slice_40 rfl rfl hgv (by omega) (at_mapX e23)).mono (fun v W' h => ⟨by rw [← h.1]; exact Below.refl _ _, by rw [← h.1]; exact h.2⟩)
     refine Dc (fun Wd hd => ?_) ?_
     ·
      intro u10_9 p10_9
      exact (dx_fldP 1 rfl ty_fld_43_0_0 rfl p10_9 (cs' := [.string r22.1]) rfl (Nat.succ_pos _)).mono (fun v W' h => ⟨by rw [← h.1]; exact Below.refl _ _, by rw [← h.1]; exact h.2⟩)
     refine Dc (fun Wd hd => ?_) ?_
     ·
      intro u10_10 p10_10
      exact Dd (dx_loadP rfl ty_one_9 rfl p10_10) rfl
     refine Dc (fun Wd hd => ?_) ?_
     ·
      exact Dd (dx_lenT rfl Try.underlying9 rfl) rfl
     refine Dc (fun Wd hd => ?_) ?_
     ·
      exact Dd (dx_min rfl rfl rfl) rfl
     refine Dc (fun Wd hd => ?_) ?_
     ·
      intro u10_6 p10_6
      obtain ⟨wz, rfl, hw1, hw2, hws⟩ := p10_6
      exact DV.dr (dx_add (r := wz + (if 2000 < ((r22.1).size : Int) then 2000 else ((r22.1).size : Int))) rfl rfl rfl (wrap64_id (by split <;> omega))) ⟨Below.refl _ _, ⟨wz, rfl, hw1, hw2, hws⟩⟩
     exact trivial
    ·
     intro W24 b25
     intro u10_3 p10_3
     intro u10_4 p10_4
     intro _ _
     intro u10_9 p10_9
     intro u10_10 p10_10
     rintro u10_14 ⟨wz, rfl, hw1, hw2, hws⟩
     replace hgv := hgv.below b25
     replace hps := hps.below b25
     replace htv := htv.below b25
     replace hB := below_then hB b25
     replace hL := LL.below hL b25
     refine Va (dx_add (r := tot + (wz + (if 2000 < ((r22.1).size : Int) then 2000 else ((r22.1).size : Int)))) rfl rfl rfl (wrap64_id (by omega))) rfl rfl (Pu rfl (Ni (hK21 (Rg (Pu rfl (Pu rfl ?_))))))
     refine Ge (dx_idxF i rfl ty_slice_40 rfl rfl hgv (by omega) (at_mapX e23)) rfl rfl ?_
     rintro u26 _ ⟨rfl, p27⟩
     refine Va (dx_loadPN rfl ty_agg_43_6 rfl p27 rfl) rfl rfl ?_
     refine Ge (dx_lit1 (r := [.string r22.1, .int .i64 r22.2.kind, .int .i64 r22.2.num, .string r22.2.text, r22.2.nv, r22.2.iv]) rfl ty_ap_40 (by decide) (by decide) rfl rfl rfl) rfl rfl ?_
     rintro u32 W28 ⟨k29, b30, z31⟩
     have l33 := hB.size
     replace hgv := hgv.more b30 (Nat.le_refl _)
     replace hps := hps.more b30 (Nat.le_refl _)
     replace htv := htv.more b30 (Nat.le_refl _)
     replace hB := below_then hB b30
     replace hL := LL.more hL z31
     refine Pu rfl ?_
     refine Ge (dx_apO' (rs := [[.string r22.1, .int .i64 r22.2.kind, .int .i64 r22.2.num, .string r22.2.text, r22.2.nv, r22.2.iv]]) (news := ((ps.take i).reverse.map encP)) rfl ty_ap_40 rfl rfl k29 htv (fun r hr => by obtain ⟨p, hp, rfl⟩ := List.mem_map.1 hr; exact oc_cons rfl (hps p.2 (List.mem_map.2 ⟨p, List.mem_of_mem_take (List.mem_reverse.1 hp), rfl⟩)).oc) (by simp only [List.length_append, List.length_map, List.length_reverse, List.length_take, List.length_cons, List.length_nil]; unfold maxLen; omega) (by simp only [List.length_append, List.length_map, List.length_reverse, List.length_take, List.length_cons, List.length_nil]; omega)) rfl rfl ?_
     rintro u37 W34 ⟨B38, k35, g36⟩
     have l39 := g36.le l33 hB.size
     replace hgv := hgv.grow' g36 (.head _)
     replace hps := hps.grow' g36 (.head _)
     replace hB := g36.below hB l33 hB.size
     replace hL := LL.grow hL g36 k35.lt
     refine Pu rfl (Ni (hK20 (Rg (Pu rfl (Va (dx_add (r := (i : Int) + 1) rfl rfl rfl (wrap64_id (by omega))) rfl rfl (Pu rfl (Ni ?_)))))))
     have htv2 : RdF 6 L W34 u37 ((ps.take (i + 1)).reverse.map encP) := by rw [← rev_row e23]; exact k35.rd (hL0.notin l39)
     replace hL := hL.less (fun x hx => (.tail _ (.tail _ hx)))
     replace hgv := hgv.less (fun x hx => (.tail _ (.tail _ hx)))
     replace hps := hps.less (fun x hx => (.tail _ (.tail _ hx)))
     exact hK14 (i + 1) (tot + (wz + (if 2000 < ((r22.1).size : Int) then 2000 else ((r22.1).size : Int)))) u37 ⟨(by omega), (by omega), (by omega), (fun hh k a hk ha => by rcases Nat.lt_or_ge k i with hl | hl; exact hs (by omega) k a hl ha; obtain rfl : k = i := (by omega); rw [e23] at ha; cases ha; exact ⟨hws (by omega), by omega⟩), hB, hL, hgv, hps, htv2⟩ (by omega) (by repeat first | exact trivial | exact And.intro rfl trivial | refine And.intro rfl ?_ | refine And.intro (congrArg (fun z : Int => some (Value.int .i64 z)) (by omega)) ?_)
   ·
    replace c19 := dF c19
    refine WC.exit ?_
    refine hK12 (Sq fun K40 hK40 => (Sq fun K41 hK41 => (Rg (Pu rfl (Va (dx_gtr rfl rfl rfl) rfl rfl (Ni (hK41 ?_)))))))
    refine WC.cond rfl (fun c42 => ?_) (fun c42 => ?_)
    ·
     replace c42 := dT c42
     refine Sq fun K43 hK43 => (Rg (Pu rfl (Ni (hK43 ?_))))
     exact WC.ret fun a_ ha_ => hQ (cv_ret1 rfl (.tmp rfl) rfl hB ha_)
    ·
     replace c42 := dF c42
     exfalso; omega
  ·
   replace g18 := dF g18
   refine Of rfl (Of rfl (Pu rfl (Ni (hK17 (WC.condF rfl ?_)))))
   refine WC.exit ?_
   refine hK12 (Sq fun K44 hK44 => (Sq fun K45 hK45 => (Rg (Pu rfl (Va (dx_gtr rfl rfl rfl) rfl rfl (Ni (hK45 ?_)))))))
   refine WC.cond rfl (fun c46 => ?_) (fun c46 => ?_)
   ·
    replace c46 := dT c46
    refine Sq fun K47 hK47 => (Rg (Pu rfl (Ni (hK47 ?_))))
    exact WC.ret fun a_ ha_ => hQ (cv_ret1 rfl (.tmp rfl) rfl hB ha_)
   ·
    replace c46 := dF c46
    have hie : i = ps.length := by omega
    have hzs : ∀ p ∈ ps, SzT 1000000 (n + 1) p.2 ∧ p.1.size ≤ 1000000 := fun p hp => by obtain ⟨k, hk⟩ := List.mem_iff_getElem?.1 hp; have h_ := hs (by omega) k p (by have := (List.getElem?_eq_some_iff.1 hk).1; omega) hk; exact ⟨h_.1.le (by decide), by omega⟩
    have htr : RdF 6 (L) W15 tv (ps.reverse.map encP) := by have h_ := htv; rw [hie, List.take_length] at h_; exact h_
    have hpr : RdTs (n + 1) (L) W15 (ps.reverse.map Prod.snd) := fun c hc => hps c (by obtain ⟨p, hp, rfl⟩ := List.mem_map.1 hc; exact List.mem_map.2 ⟨p, List.mem_reverse.1 hp, rfl⟩)
    refine WC.skip (hK44 (Sq fun K48 hK48 => (Rg (Pu rfl ?_))))
    refine Ge (dx_cv rfl Try.func29 rfl rfl rfl (jMk_u n ps gv W15 _ hL hgv hps (by omega) hzs)) rfl rfl ?_
    rintro _ W50 ⟨⟨t, m, e, rfl, hte, ht⟩, b49⟩
    replace htr := htr.below b49
    replace hpr := hpr.below b49
    replace hB := below_then hB b49
    replace hL := LL.below hL b49
    refine Pu rfl (Pu rfl (Pu rfl ?_))
    refine Ge (dx_alloc rfl ty_zero_26 rfl) rfl rfl ?_
    rintro _ W51 ⟨rfl, k52, b53, z54⟩
    have l55 := hB.size
    replace htr := htr.more b53 (Nat.le_refl _)
    replace hpr := hpr.more b53 (Nat.le_refl _)
    replace ht := ht.more b53 (Nat.le_refl _)
    replace hB := below_then hB b53
    replace hL := LL.more hL z54
    refine WL.do (dx_store (cs' := [.int .i64 t.kind, .int .i64 t.num, .string t.text, t.nv, t.iv]) (vs := [.int .i64 t.kind, .int .i64 t.num, .string t.text, t.nv, t.iv]) rfl ty_size_26_5 rfl rfl rfl (oc_cons rfl (oc_cons rfl (oc_cons rfl (oc_cons (ht.1).one (oc_cons (ht.2.1).one oc_nil))))) k52 rfl (Nat.le_of_ble_eq_true rfl) rfl) rfl ?_
    rintro _ W56 ⟨k58, o57⟩
    clear k52
    replace htr := htr.only o57 (.head _)
    replace hpr := hpr.only o57 (.head _)
    replace ht := ht.only o57 (.head _)
    replace hB := o57.below hB l55
    replace hL := LL.only hL o57
    refine Pu rfl (Ni (hK48 (Sq fun K59 hK59 => (Rg (Pu rfl ?_)))))
    refine Ge (dx_cv rfl Try.func29 rfl rfl rfl (jMk_u n ps.reverse tv W56 _ hL htr hpr (by rw [List.length_reverse]; omega) (fun p hp => hzs p (List.mem_reverse.1 hp)))) rfl rfl ?_
    rintro _ W61 ⟨⟨u, m2, f, rfl, hue, hu⟩, b60⟩
    replace ht := ht.below b60
    replace k58 := k58.below b60
    replace hB := below_then hB b60
    replace hL := LL.below hL b60
    refine Pu rfl (Pu rfl (Pu rfl ?_))
    refine Ge (dx_alloc rfl ty_zero_26 rfl) rfl rfl ?_
    rintro _ W62 ⟨rfl, k63, b64, z65⟩
    have n66 : W50.heap.size ≠ W61.heap.size := Nat.ne_of_lt k58.lt
    have l67 := hB.size
    replace ht := ht.more b64 (Nat.le_refl _)
    replace hu := hu.more b64 (Nat.le_refl _)
    replace k58 := k58.below b64
    replace hB := below_then hB b64
    replace hL := LL.more hL z65
    refine WL.do (dx_store (cs' := [.int .i64 u.kind, .int .i64 u.num, .string u.text, u.nv, u.iv]) (vs := [.int .i64 u.kind, .int .i64 u.num, .string u.text, u.nv, u.iv]) rfl ty_size_26_5 rfl rfl rfl (oc_cons rfl (oc_cons rfl (oc_cons rfl (oc_cons (hu.1).one (oc_cons (hu.2.1).one oc_nil))))) k63 rfl (Nat.le_of_ble_eq_true rfl) rfl) rfl ?_
    rintro _ W68 ⟨k70, o69⟩
    replace k58 := k58.other o69 n66
    clear k63
    replace ht := ht.only o69 (.head _)
    replace hu := hu.only o69 (.head _)
    replace hB := o69.below hB l67
    replace hL := LL.only hL o69
    refine Pu rfl (Ni (hK59 (Sq fun K71 hK71 => ?_)))
    rw [rev_mk] at hue
    have hsame := mkR_same hte hue
    refine Rg (Pu rfl (Pu rfl (Va (dv_T (dx_eql rfl rfl rfl) hsame.1) rfl rfl (Pu rfl (Va (dx_loadN rfl ty_agg_26_5 rfl k58.range rfl) rfl rfl (Va (dx_loadN rfl ty_agg_26_5 rfl k70.range rfl) rfl rfl ?_))))))
    refine Ge (dx_cv rfl Try.func14 rfl rfl rfl (alikeE_v (m + m2) t u W68 _ hL (ht.le (by omega)) (hu.le (by omega)) hsame.2)) rfl rfl ?_
    rintro _ W73 ⟨rfl, b72⟩
    replace hB := below_then hB b72
    refine Pu rfl (Pu rfl (Ni (hK71 ?_)))
    exact WC.ret fun a_ ha_ => hQ (cv_ret1 rfl (.tmp rfl) rfl hB ha_)

end Go.Proofs.Ytpinidlfcifeeaa

/- The reference on disks: Right, Copy, step, look, Read, Write; the law DiskWrites. The reference on disks: Arm, Sync, Torn. The reference: sums, Seal.  -/
import Derived.Test.YtfachlmgdlnpoaaDoorPD
namespace Go.Proofs.YtfachlmgdlnpoaaDoor
open Go.RowKit
set_option linter.unusedVariables false
set_option linter.unusedSimpArgs false
set_option maxRecDepth 8000
set_option maxHeartbeats 2000000

theorem Qc3 {α : Type} {q : α -> Bool} {l : List α} {i : Nat} {x : α} (h : l[i]? = some x) (hx : q x = false) : (l.drop i).any q = (l.drop (i + 1)).any q := by
 obtain ⟨hl, he⟩ := List.getElem?_eq_some_iff.1 h
 rw [List.drop_eq_getElem_cons hl, he, List.any_cons, hx, Bool.false_or]
theorem QaD {Qb : List (List Int)} {Qa : List (Int × List Int)} {i : Nat} {p : Int × List Int} (h : Qa[i]? = some p) (hb : Vm Qb p.1 = false) : QH Qb Qa = false := by
 unfold QH
 have : (Qa.any fun p => !Vm Qb p.1) = true := List.any_eq_true.2 ⟨p, List.mem_of_getElem? h, by simp [hb]⟩
 simp [this]
theorem E6 {Qb : List (List Int)} {a : Int} (h : a < 0 \/ (Qb.length : Int) <= a) : Vm Qb a = false := by
 unfold Vm
 simp
 omega
theorem U7 {Qb : List (List Int)} {a : Int} (h : ¬ a < 0) (h2 : ¬ (Qb.length : Int) <= a) : Vm Qb a = true := by
 unfold Vm
 simp
 omega
set_option maxHeartbeats 1000000 in
theorem JQ (Qb : List (List Int)) (Qa : List (Int × List Int)) (Qd : Int) (Qc : Bool) (s1 s2 : Value) (w : World) (L : List Nat) (hL : LL L w) (h1 : QC 128 L w s1 (Qb.map Qq)) (h2 : QC 129 L w s2 (Qa.map QD)) : CV Tryd.prog 56 [.agg #[s1, s2, .int .i64 Qd, .bool Qc]] w fun v W => v = .bool (QH Qb Qa) := by
 refine QL (N := 46) (f := [(0, .agg #[s1, s2, .int .i64 Qd, .bool Qc])]) Tryd.func56 rfl rfl rfl rfl fun Q hQ hE => ?_
 have hB := Below.refl w.heap.size w
 have h1m : Qb.length <= maxLen := by have := h1.len; rwa [List.length_map] at this
 unfold maxLen at h1m
 have h2m : Qa.length <= maxLen := by have := h2.len; rwa [List.length_map] at this
 unfold maxLen at h2m
 refine Sq fun K1 hK1 => (Rg ?_)
 refine Ge (Xb rfl rfl rfl) rfl rfl ?_
 rintro _ W2 ⟨rfl, k3, b4, z5⟩
 have l6 := hB.size
 replace h1 := h1.more b4 (Nat.le_refl _)
 replace h2 := h2.more b4 (Nat.le_refl _)
 replace hB := Qe hB b4
 replace hL := LL.more hL z5
 refine Pu rfl (Ni (hK1 (Sq fun K7 hK7 => (Sq fun K8 hK8 => (Rg (Va (Qm (o1 := 0) rfl QE rfl rfl) rfl rfl (Va (Qi rfl Q9 rfl (k3.cell (k := 0) rfl)) rfl rfl ?_)))))))
 refine Va (QY rfl QX rfl h1) rfl rfl (Va (Xh rfl rfl rfl) rfl rfl (Pu rfl ?_))
 refine WL.split 8 rfl (fun g9 => ?_) (fun g9 => ?_)
 .
  replace g9 := dT g9
  refine Of rfl (Of rfl (Of rfl (Of rfl (Pu rfl (Pu rfl (Of rfl (Of rfl ?_)))))))
  refine Of rfl (Of rfl (Pu rfl (Ni (hK8 (WC.condT rfl (Sq fun K10 hK10 => (Rg ?_)))))))
  refine Pu rfl (Ni (hK10 ?_))
  exact WC.ret fun a_ ha_ => hQ (QI rfl (.tmp rfl) (by rw [show QH Qb Qa = false from (by simp [QH, g9])]) hB ha_)
 .
  replace g9 := dF g9
  refine Va (Qm (o1 := 0) rfl QE rfl rfl) rfl rfl (Va (Qi rfl Q9 rfl (k3.cell (k := 0) rfl)) rfl rfl (Va (QY rfl QX rfl h1) rfl rfl (Va (XQ rfl rfl rfl) rfl rfl (Pu rfl (Pu rfl ?_)))))
  refine WL.split 14 rfl (fun g11 => ?_) (fun g11 => ?_)
  .
   replace g11 := dT g11
   refine Of rfl (Of rfl (Of rfl (Of rfl (Pu rfl (Ni (hK8 (WC.condT rfl ?_)))))))
   refine Sq fun K12 hK12 => (Rg (Pu rfl (Ni (hK12 ?_))))
   exact WC.ret fun a_ ha_ => hQ (QI rfl (.tmp rfl) (by rw [show QH Qb Qa = false from (by simp [QH, g9, g11])]) hB ha_)
  .
   replace g11 := dF g11
   refine Va (Qm (o1 := 1) rfl QG rfl rfl) rfl rfl (Va (Qi rfl Xg rfl (k3.cell (k := 1) rfl)) rfl rfl (Va (QY rfl QZ rfl h2) rfl rfl (Va (XQ rfl rfl rfl) rfl rfl (Pu rfl (Ni (hK8 ?_))))))
   refine WC.cond rfl (fun c13 => ?_) (fun c13 => ?_)
   .
    replace c13 := dT c13
    refine Sq fun K14 hK14 => (Rg (Pu rfl (Ni (hK14 ?_))))
    exact WC.ret fun a_ ha_ => hQ (QI rfl (.tmp rfl) (by rw [show QH Qb Qa = false from (by simp [QH, g9, g11, c13])]) hB ha_)
   .
    replace c13 := dF c13
    refine WC.skip (hK7 (Sq fun K15 hK15 => (Sq fun K16 hK16 => (Rg (Pu rfl (Ni (hK16 ?_)))))))
    refine WC.block ?_
    refine WC.loop (fun (i : Nat) => [(1, .pointer (some ⟨w.heap.size, 0, none⟩)), (3, .int .i64 (i : Int))]) (fun (i : Nat) W => i <= Qa.length /\ (Qa.any fun p => !Vm Qb p.1) = ((Qa.drop i).any fun p => !Vm Qb p.1) /\ Below w.heap.size w W /\ LL (w.heap.size :: L) W /\ QC 128 (w.heap.size :: L) W s1 (Qb.map Qq) /\ QC 129 (w.heap.size :: L) W s2 (Qa.map QD) /\ Xe W w.heap.size [s1, s2, .int .i64 Qd, .bool Qc]) (fun (i : Nat) => Qa.length - i) 0 (by repeat first | exact trivial | refine aR ?_ | refine aI (by omega) ?_) ⟨Nat.zero_le _, rfl, hB, hL, h1, h2, k3⟩ ?_
    clear h1 h2 k3 hB hL
    rintro K17 i W18 ⟨hi, hv, hB, hL, h1, h2, k3⟩ hK17
    refine Sq fun K19 hK19 => (Sq fun K20 hK20 => (Rg (Pu rfl (Va (Qm (o1 := 1) rfl QG rfl rfl) rfl rfl (Va (Qi rfl Xg rfl (k3.cell (k := 1) rfl)) rfl rfl (Va (QY rfl QZ rfl h2) rfl rfl (Va (Xh rfl rfl rfl) rfl rfl ?_)))))))
    refine Ni (hK20 ?_)
    refine WC.cond rfl (fun c21 => ?_) (fun c21 => ?_)
    .
     replace c21 := dT c21
     refine WC.skip (hK19 (Sq fun K22 hK22 => (WC.block (Sq fun K23 hK23 => ?_))))
     obtain ⟨r24, e25⟩ : ∃ x, Qa[i]? = some x := ⟨_, List.getElem?_eq_getElem (by omega)⟩
     have Lr24 := JT h2 e25
     obtain ⟨b26, hb26⟩ : ∃ b, b = (decide (r24.1 < 0)) := ⟨_, rfl⟩
     refine dM 19 [(some 27, .is (.pointer (some ⟨w.heap.size, 1, none⟩))), (some 28, .is (s2)), (some 29, .is (.int .i64 (i : Int))), (some 30, .by fun u W => Jr (w.heap.size :: L) W u (QD r24)), (some 31, .by fun u W => Jr (w.heap.size :: L) W u [.int .i64 r24.1]), (some 32, .is (.int .i64 r24.1)), (some 33, .is (.bool (decide (r24.1 < 0)))), (some 34, .is (.bool b26)), (some 35, .is (bif b26 then undef else .pointer (some ⟨w.heap.size, 1, none⟩))), (some 36, .is (bif b26 then undef else s2)), (some 37, .is (bif b26 then undef else .int .i64 (i : Int))), (some 38, .by fun u W => b26 = false -> Jr (w.heap.size :: L) W u (QD r24)), (some 39, .by fun u W => b26 = false -> Jr (w.heap.size :: L) W u [.int .i64 r24.1]), (some 40, .is (bif b26 then undef else .int .i64 r24.1)), (some 41, .is (bif b26 then undef else .pointer (some ⟨w.heap.size, 0, none⟩))), (some 42, .is (bif b26 then undef else s1)), (some 43, .is (bif b26 then undef else .int .i64 (Qb.length : Int))), (some 44, .is (bif b26 then undef else .bool (decide ((Qb.length : Int) <= r24.1)))), (some 45, .is (.bool (b26 || (decide ((Qb.length : Int) <= r24.1)))))] [[], [0], [], [1, 2], [3], [4], [5], [6], [7], [8, 7], [7], [9, 10, 7], [11, 7], [12, 7], [7], [14, 7], [15, 7], [13, 16, 7], [7, 17]] ⟨fun _ _ _ hb h => h.below hb, fun _ _ _ hb h => h.below hb, fun _ _ _ hb h g => (h g).below hb, fun _ _ _ hb h g => (h g).below hb, trivial⟩ ?_ ?_
     .
      refine Dc (fun Wd hd => ?_) ?_
      .
       exact Dd (Qm (o1 := 1) rfl QG rfl rfl) rfl
      refine Dc (fun Wd hd => ?_) ?_
      .
       have k3 := k3.below hd
       exact Dd (Qi rfl Xg rfl (k3.cell (k := 1) rfl)) rfl
      refine Dc (fun Wd hd => ?_) ?_
      .
       exact Dd (Qt rfl rfl) rfl
      refine Dc (fun Wd hd => ?_) ?_
      .
       have h2 := h2.below hd
       exact (XR i rfl QZ rfl rfl h2 (by omega) (XL e25)).mono (fun v W' h => ⟨by rw [<- h.1]; exact Below.refl _ _, by rw [<- h.1]; exact h.2⟩)
      refine Dc (fun Wd hd => ?_) ?_
      .
       intro u6_3 p6_3
       exact (VU 1 rfl Zw rfl p6_3 (cs' := [.int .i64 r24.1]) (by simp [QD, List.take_of_length_le, Qo, Lr24]) (Nat.succ_pos _)).mono (fun v W' h => ⟨by rw [<- h.1]; exact Below.refl _ _, by rw [<- h.1]; exact h.2⟩)
      refine Dc (fun Wd hd => ?_) ?_
      .
       intro u6_4 p6_4
       exact Dd (ZR rfl Qu rfl p6_4) rfl
      refine Dc (fun Wd hd => ?_) ?_
      .
       exact Dd (Xh rfl rfl rfl) rfl
      refine Dc (fun Wd hd => ?_) ?_
      .
       exact DV.dr (Qt rfl rfl) ⟨Below.refl _ _, by rw [hb26]; rfl⟩
      refine Dc (fun Wd hd => ?_) ?_
      .
       cases b26
       .
        exact Dd (Qm (o1 := 1) rfl QG rfl rfl) rfl
       .
        exact Dd (Xc rfl) rfl
      refine Dc (fun Wd hd => ?_) ?_
      .
       cases b26
       .
        have k3 := k3.below hd
        exact Dd (Qi rfl Xg rfl (k3.cell (k := 1) rfl)) rfl
       .
        exact Dd (Xc rfl) rfl
      refine Dc (fun Wd hd => ?_) ?_
      .
       cases b26
       .
        exact Dd (Qt rfl rfl) rfl
       .
        exact Dd (Xc rfl) rfl
      refine Dc (fun Wd hd => ?_) ?_
      .
       cases b26
       .
        have h2 := h2.below hd
        exact (XR i rfl QZ rfl rfl h2 (by omega) (XL e25)).mono (fun v W' h => ⟨by rw [<- h.1]; exact Below.refl _ _, fun _ => by rw [<- h.1]; exact h.2⟩)
       .
        exact DV.dr (Xc rfl) ⟨Below.refl _ _, fun h => by cases h⟩
      refine Dc (fun Wd hd => ?_) ?_
      .
       intro u6_11 p6_11
       cases b26
       .
        replace p6_11 := p6_11 rfl
        exact (VU 1 rfl Zw rfl p6_11 (cs' := [.int .i64 r24.1]) (by simp [QD, List.take_of_length_le, Qo, Lr24]) (Nat.succ_pos _)).mono (fun v W' h => ⟨by rw [<- h.1]; exact Below.refl _ _, fun _ => by rw [<- h.1]; exact h.2⟩)
       .
        exact DV.dr (Xc rfl) ⟨Below.refl _ _, fun h => by cases h⟩
      refine Dc (fun Wd hd => ?_) ?_
      .
       intro u6_12 p6_12
       cases b26
       .
        replace p6_12 := p6_12 rfl
        exact Dd (ZR rfl Qu rfl p6_12) rfl
       .
        exact Dd (Xc rfl) rfl
      refine Dc (fun Wd hd => ?_) ?_
      .
       cases b26
       .
        exact Dd (Qm (o1 := 0) rfl QE rfl rfl) rfl
       .
        exact Dd (Xc rfl) rfl
      refine Dc (fun Wd hd => ?_) ?_
      .
       cases b26
       .
        have k3 := k3.below hd
        exact Dd (Qi rfl Q9 rfl (k3.cell (k := 0) rfl)) rfl
       .
        exact Dd (Xc rfl) rfl
      refine Dc (fun Wd hd => ?_) ?_
      .
       cases b26
       .
        have h1 := h1.below hd
        exact Dd (QY rfl QX rfl h1) rfl
       .
        exact Dd (Xc rfl) rfl
      refine Dc (fun Wd hd => ?_) ?_
      .
       cases b26
       .
        exact Dd (Yo rfl rfl rfl) rfl
       .
        exact Dd (Xc rfl) rfl
      refine Dc (fun Wd hd => ?_) ?_
      .
       cases b26
       .
        exact Dd (ZO rfl rfl rfl) rfl
       .
        exact Dd (ZO rfl rfl rfl) rfl
      exact trivial
     .
      intro W27 b28
      intro u6_3 p6_3
      intro u6_4 p6_4
      intro _ _
      intro _ _
      replace h1 := h1.below b28
      replace h2 := h2.below b28
      replace k3 := k3.below b28
      replace hB := Qe hB b28
      replace hL := LL.below hL b28
      refine Ni (hK23 ?_)
      refine WC.cond rfl (fun c29 => ?_) (fun c29 => ?_)
      .
       refine Sq fun K30 hK30 => (Rg (Pu rfl (Ni (hK30 ?_))))
       exact WC.ret fun a_ ha_ => hQ (QI rfl (.tmp rfl) (by rw [QaD e25 (E6 (by rw [hb26] at c29; simpa using c29))]) hB ha_)
      .
       refine WC.skip (hK22 (Rg (Pu rfl (Va (QR (r := (i : Int) + 1) rfl rfl rfl (Qn (by omega))) rfl rfl (Pu rfl (Ni ?_))))))
       exact hK17 (i + 1) ⟨(by omega), (by rw [hv]; exact Qc3 e25 (by have hh : Vm Qb r24.1 = true := U7 (by have := (Qac c29).1; rw [hb26] at this; exact of_decide_eq_false this) (of_decide_eq_false (Qac c29).2); simp [hh])), hB, hL, h1, h2, k3⟩ (by omega) (by repeat first | exact trivial | refine aR ?_ | refine aI (by omega) ?_)
    .
     replace c21 := dF c21
     refine WC.exit ?_
     refine hK15 (Sq fun K31 hK31 => (Rg (Pu rfl (Ni (hK31 ?_)))))
     exact WC.ret fun a_ ha_ => hQ (QI rfl (.tmp rfl) (by rw [show QH Qb Qa = true from (by unfold QH; rw [hv, List.drop_eq_nil_of_le (by omega)]; simp [g9, g11, c13])]) hB ha_)

def Z0 (Qd : Int) (Qc : Bool) : Int × Bool × Bool := if Qc = true \/ Qd = 0 then (Qd, true, false) else if 0 < Qd then (Qd - 1, Qc, true) else (Qd, Qc, true)
set_option maxHeartbeats 1000000 in
theorem EQ (Qb : List (List Int)) (Qa : List (Int × List Int)) (Qd : Int) (Qc : Bool) (s1 s2 : Value) (w : World) (L : List Nat) (hL : LL L w) (h1 : QC 128 L w s1 (Qb.map Qq)) (h2 : QC 129 L w s2 (Qa.map QD))  (hfu : -9223372036854775808 <= Qd /\ Qd <= 9223372036854775807) : CV Tryd.prog 83 [.agg #[s1, s2, .int .i64 Qd, .bool Qc]] w fun v W => v = .tuple #[.agg #[s1, s2, .int .i64 (Z0 Qd Qc).1, .bool (Z0 Qd Qc).2.1], .bool (Z0 Qd Qc).2.2] := by
 refine QL (N := 21) (f := [(0, .agg #[s1, s2, .int .i64 Qd, .bool Qc])]) Tryd.func83 rfl rfl rfl rfl fun Q hQ hE => ?_
 have hB := Below.refl w.heap.size w
 have h1m : Qb.length <= maxLen := by have := h1.len; rwa [List.length_map] at this
 unfold maxLen at h1m
 have h2m : Qa.length <= maxLen := by have := h2.len; rwa [List.length_map] at this
 unfold maxLen at h2m
 refine Sq fun K1 hK1 => (Rg ?_)
 refine Ge (Xb rfl rfl rfl) rfl rfl ?_
 rintro _ W2 ⟨rfl, k3, b4, z5⟩
 have l6 := hB.size
 replace h1 := h1.more b4 (Nat.le_refl _)
 replace h2 := h2.more b4 (Nat.le_refl _)
 replace hB := Qe hB b4
 refine Ge (Qs rfl QU rfl) rfl rfl ?_
 rintro _ W7 ⟨rfl, k8, b9, z10⟩
 have n11 : w.heap.size ≠ W2.heap.size := Nat.ne_of_lt k3.lt
 have l12 := hB.size
 replace h1 := h1.more b9 (Nat.le_refl _)
 replace h2 := h2.more b9 (Nat.le_refl _)
 replace k3 := k3.below b9
 replace hB := Qe hB b9
 refine Pu rfl (Ni (hK1 (Sq fun K13 hK13 => (Sq fun K14 hK14 => (Rg (Va (Qm (o1 := 3) rfl Xu rfl rfl) rfl rfl (Va (Qi rfl Z7 rfl (k3.cell (k := 3) rfl)) rfl rfl ?_)))))))
 refine Pu rfl ?_
 refine WL.split 6 rfl (fun g15 => ?_) (fun g15 => ?_)
 .
  refine Of rfl (Of rfl (Of rfl (Pu rfl (Ni (hK14 (WC.condT rfl (Sq fun K16 hK16 => ?_)))))))
  refine Rg (Va (Qm (o1 := 3) rfl Xu rfl rfl) rfl rfl ?_)
  refine WL.do (Qh (cs' := [s1, s2, .int .i64 Qd, .bool true]) (vs := [.bool true]) rfl UG rfl rfl rfl (oC rfl Qk) k3 rfl (nB rfl) rfl) rfl ?_
  rintro _ W17 ⟨k19, o18⟩
  replace k8 := k8.other o18 n11.symm
  clear k3
  replace h1 := h1.only o18 (.tail _ (.head _))
  replace h2 := h2.only o18 (.tail _ (.head _))
  replace hB := o18.below hB l6
  refine Ni (hK16 (Sq fun K20 hK20 => (Rg (Va (Qg rfl Qf rfl k19.range rfl) rfl rfl ?_))))
  refine WL.do (Qh (cs' := [s1, s2, .int .i64 Qd, .bool true]) (vs := [s1, s2, .int .i64 Qd, .bool true]) rfl Qj rfl rfl rfl (oC h1.one (oC h2.one (oC rfl (oC rfl Qk)))) k8 rfl (nB rfl) rfl) rfl ?_
  rintro _ W21 ⟨k23, o22⟩
  clear k8
  replace hB := o22.below hB l12
  refine Pu rfl (Ni (hK20 ?_))
  exact WC.ret fun a_ ha_ => hQ (QM rfl (.agg rfl Qf k23.range rfl) (.tmp rfl) (by simp [Z0, *]) hB ha_)
 .
  replace g15 := ZN g15
  refine Va (Qm (o1 := 2) rfl XW rfl rfl) rfl rfl (Va (Qi rfl Qu rfl (k3.cell (k := 2) rfl)) rfl rfl (Va (Zo rfl rfl rfl) rfl rfl (Pu rfl (Ni (hK14 ?_)))))
  refine WC.cond rfl (fun c24 => ?_) (fun c24 => ?_)
  .
   replace c24 := dT c24
   refine Sq fun K25 hK25 => (Rg (Va (Qm (o1 := 3) rfl Xu rfl rfl) rfl rfl ?_))
   refine WL.do (Qh (cs' := [s1, s2, .int .i64 Qd, .bool true]) (vs := [.bool true]) rfl UG rfl rfl rfl (oC rfl Qk) k3 rfl (nB rfl) rfl) rfl ?_
   rintro _ W26 ⟨k28, o27⟩
   replace k8 := k8.other o27 n11.symm
   clear k3
   replace h1 := h1.only o27 (.tail _ (.head _))
   replace h2 := h2.only o27 (.tail _ (.head _))
   replace hB := o27.below hB l6
   refine Ni (hK25 (Sq fun K29 hK29 => (Rg (Va (Qg rfl Qf rfl k28.range rfl) rfl rfl ?_))))
   refine WL.do (Qh (cs' := [s1, s2, .int .i64 Qd, .bool true]) (vs := [s1, s2, .int .i64 Qd, .bool true]) rfl Qj rfl rfl rfl (oC h1.one (oC h2.one (oC rfl (oC rfl Qk)))) k8 rfl (nB rfl) rfl) rfl ?_
   rintro _ W30 ⟨k32, o31⟩
   clear k8
   replace hB := o31.below hB l12
   refine Pu rfl (Ni (hK29 ?_))
   exact WC.ret fun a_ ha_ => hQ (QM rfl (.agg rfl Qf k32.range rfl) (.tmp rfl) (by simp [Z0, *]) hB ha_)
  .
   replace c24 := dF c24
   refine WC.skip (hK13 (Sq fun K33 hK33 => (Sq fun K34 hK34 => (Rg (Va (Qm (o1 := 2) rfl XW rfl rfl) rfl rfl (Va (Qi rfl Qu rfl (k3.cell (k := 2) rfl)) rfl rfl (Va (XQ rfl rfl rfl) rfl rfl ?_)))))))
   refine Ni (hK34 ?_)
   refine WC.cond rfl (fun c35 => ?_) (fun c35 => ?_)
   .
    replace c35 := dT c35
    refine Rg (Va (Qm (o1 := 2) rfl XW rfl rfl) rfl rfl (Va (Qi rfl Qu rfl (k3.cell (k := 2) rfl)) rfl rfl (Va (Zn (r := Qd - 1) rfl rfl rfl (Qn (by omega))) rfl rfl (Va (Qm (o1 := 2) rfl XW rfl rfl) rfl rfl ?_))))
    refine WL.do (Qh (cs' := [s1, s2, .int .i64 (Qd - 1), .bool Qc]) (vs := [.int .i64 (Qd - 1)]) rfl Zr rfl rfl rfl (oC rfl Qk) k3 rfl (nB rfl) rfl) rfl ?_
    rintro _ W36 ⟨k38, o37⟩
    replace k8 := k8.other o37 n11.symm
    clear k3
    replace h1 := h1.only o37 (.tail _ (.head _))
    replace h2 := h2.only o37 (.tail _ (.head _))
    replace hB := o37.below hB l6
    refine Ni (hK33 (Sq fun K39 hK39 => (Rg (Va (Qg rfl Qf rfl k38.range rfl) rfl rfl ?_))))
    refine WL.do (Qh (cs' := [s1, s2, .int .i64 (Qd - 1), .bool Qc]) (vs := [s1, s2, .int .i64 (Qd - 1), .bool Qc]) rfl Qj rfl rfl rfl (oC h1.one (oC h2.one (oC rfl (oC rfl Qk)))) k8 rfl (nB rfl) rfl) rfl ?_
    rintro _ W40 ⟨k42, o41⟩
    clear k8
    replace hB := o41.below hB l12
    refine Pu rfl (Ni (hK39 ?_))
    exact WC.ret fun a_ ha_ => hQ (QM rfl (.agg rfl Qf k42.range rfl) (.tmp rfl) (by simp [Z0, *]) hB ha_)
   .
    replace c35 := dF c35
    refine WC.skip (hK33 (Sq fun K43 hK43 => (Rg (Va (Qg rfl Qf rfl k3.range rfl) rfl rfl ?_))))
    refine WL.do (Qh (cs' := [s1, s2, .int .i64 Qd, .bool Qc]) (vs := [s1, s2, .int .i64 Qd, .bool Qc]) rfl Qj rfl rfl rfl (oC h1.one (oC h2.one (oC rfl (oC rfl Qk)))) k8 rfl (nB rfl) rfl) rfl ?_
    rintro _ W44 ⟨k46, o45⟩
    clear k8
    replace hB := o45.below hB l12
    refine Pu rfl (Ni (hK43 ?_))
    exact WC.ret fun a_ ha_ => hQ (QM rfl (.agg rfl Qf k46.range rfl) (.tmp rfl) (by simp [Z0, *]) hB ha_)

def UP (Qb : List (List Int)) (Qa : List (Int × List Int)) (a : Int) : List Int := match Zf Qa a Qa.length with
 | some z => z
 | none => Qb[a.toNat]?.getD []
theorem Hw {L L' : List Nat} {w w' : World} {v v' : Value} {Qb : List (List Int)} {Qa : List (Int × List Int)} {a : Int} (h : QC 128 L w v (Qb.map Qq)) (h2 : QC 129 L' w' v' (Qa.map QD)) (h3 : 0 <= a) (h4 : a < Qb.length) : (UP Qb Qa a).length = 128 := by
  unfold UP
  split
  . rename_i z hz; exact U5 h2 a _ z hz
  . obtain ⟨x, hx⟩ : ∃ x, Qb[a.toNat]? = some x := ⟨_, List.getElem?_eq_getElem (by omega)⟩
    rw [hx]
    exact Ea h hx
theorem GK {Qb : List (List Int)} {Qa : List (Int × List Int)} {Qc : Bool} {a : Int} (h : QH Qb Qa = false \/ a < 0 \/ (Qb.length : Int) <= a) : Xl Qb Qa Qc a = (z0, 1) := by
 unfold Xl
 rcases h with h | h
 . rw [if_pos h]
 . rw [E6 h]; simp
theorem QaH {Qb : List (List Int)} {Qa : List (Int × List Int)} {Qc : Bool} {a : Int} (h : QH Qb Qa = true) (h1 : ¬ a < 0) (h2 : ¬ (Qb.length : Int) <= a) (h3 : Qc = true) : Xl Qb Qa Qc a = (z0, 9) := by
 unfold Xl
 rw [U7 h1 h2]; simp [h, h3]
theorem QaG {Qb : List (List Int)} {Qa : List (Int × List Int)} {Qc : Bool} {a : Int} (h : QH Qb Qa = true) (h1 : ¬ a < 0) (h2 : ¬ (Qb.length : Int) <= a) (h3 : ¬ Qc = true) : Xl Qb Qa Qc a = (UP Qb Qa a, 0) := by
 unfold Xl UP
 rw [U7 h1 h2]; simp [h, h3]
 cases Zf Qa a Qa.length <;> rfl
theorem Kh {Qb : List (List Int)} {Qa : List (Int × List Int)} {Qd : Int} {Qc : Bool} {a : Int} {z : List Int} (h : QH Qb Qa = false \/ a < 0 \/ (Qb.length : Int) <= a) : Q1 Qb Qa Qd Qc a z = ⟨Qb, Qa, Qd, Qc, 1⟩ := by
 unfold Q1
 rcases h with h | h
 . rw [if_pos h]
 . rw [E6 h]; simp
theorem EI {Qb : List (List Int)} {Qa : List (Int × List Int)} {Qd : Int} {Qc : Bool} {a : Int} {z : List Int} (h : QH Qb Qa = true) (h1 : ¬ a < 0) (h2 : ¬ (Qb.length : Int) <= a) (h3 : ¬ Qc = true) (h4 : (Qa.length : Int) = 4096) : Q1 Qb Qa Qd Qc a z = ⟨Qb, Qa, Qd, Qc, 10⟩ := by
 unfold Q1
 rw [U7 h1 h2, if_pos h4]; simp [h, h3]
theorem Gk {Qb : List (List Int)} {Qa : List (Int × List Int)} {Qd : Int} {Qc : Bool} {a : Int} {z : List Int} (h : QH Qb Qa = true) (h1 : ¬ a < 0) (h2 : ¬ (Qb.length : Int) <= a) (h3 : Qc = true \/ ¬ (Qa.length : Int) = 4096) (hs : (Z0 Qd Qc).2.2 = false) : Q1 Qb Qa Qd Qc a z = ⟨Qb, Qa, (Z0 Qd Qc).1, (Z0 Qd Qc).2.1, 9⟩ := by
  unfold Q1
  rw [U7 h1 h2]
  by_cases hd : Qc = true
  . simp [h, hd, Z0]
  . by_cases hf : Qd = 0
    . simp [h, hd, hf, Z0, Q8, h3.resolve_left hd]
    . exfalso; simp [Z0, hd, hf] at hs; split at hs <;> simp at hs
theorem Gj {Qb : List (List Int)} {Qa : List (Int × List Int)} {Qd : Int} {Qc : Bool} {a : Int} {z : List Int} (h : QH Qb Qa = true) (h1 : ¬ a < 0) (h2 : ¬ (Qb.length : Int) <= a) (h3 : Qc = true \/ ¬ (Qa.length : Int) = 4096) (hs : (Z0 Qd Qc).2.2 = true) : Q1 Qb Qa Qd Qc a z = ⟨Qb, Qa ++ [(a, z)], (Z0 Qd Qc).1, (Z0 Qd Qc).2.1, 0⟩ := by
  unfold Q1
  rw [U7 h1 h2]
  by_cases hd : Qc = true
  . simp [hd, Z0] at hs
  . by_cases hf : Qd = 0
    . simp [hf, Z0] at hs
    . by_cases hp : 0 < Qd <;> simp [h, hd, hf, hp, Z0, Q8, h3.resolve_left hd]
set_option maxHeartbeats 1000000 in
theorem QeH (Qb : List (List Int)) (Qa : List (Int × List Int)) (Qd : Int) (Qc : Bool) (s1 s2 : Value) (a : Int) (w : World) (L : List Nat) (hL : LL L w) (h1 : QC 128 L w s1 (Qb.map Qq)) (h2 : QC 129 L w s2 (Qa.map QD))  (hb1 : 0 <= a) (hb2 : a < Qb.length) : CV Tryd.prog 77 [.agg #[s1, s2, .int .i64 Qd, .bool Qc], .int .i64 a] w fun v W => v = .agg (Qq (UP Qb Qa a)).toArray := by
 refine QL (N := 33) (f := [(0, .agg #[s1, s2, .int .i64 Qd, .bool Qc]), (1, .int .i64 a)]) Tryd.func77 rfl rfl rfl rfl fun Q hQ hE => ?_
 have hB := Below.refl w.heap.size w
 have h1m : Qb.length <= maxLen := by have := h1.len; rwa [List.length_map] at this
 unfold maxLen at h1m
 have h2m : Qa.length <= maxLen := by have := h2.len; rwa [List.length_map] at this
 unfold maxLen at h2m
 refine Sq fun K1 hK1 => (Rg ?_)
 refine Ge (Xb rfl rfl rfl) rfl rfl ?_
 rintro _ W2 ⟨rfl, k3, b4, z5⟩
 have l6 := hB.size
 replace h1 := h1.more b4 (Nat.le_refl _)
 replace h2 := h2.more b4 (Nat.le_refl _)
 replace hB := Qe hB b4
 replace hL := LL.more hL z5
 refine Ge (Qs (cs := Qq z0) rfl Zx Ye) rfl rfl ?_
 rintro _ W7 ⟨rfl, k8, b9, z10⟩
 have l12 := hB.size
 replace h1 := h1.more b9 (Nat.le_refl _)
 replace h2 := h2.more b9 (Nat.le_refl _)
 replace k3 := k3.below b9
 replace hB := Qe hB b9
 replace hL := LL.more hL z10
 refine Ni (hK1 (Sq fun K13 hK13 => (Sq fun K14 hK14 => (Rg (Va (Qm (o1 := 1) rfl QG rfl rfl) rfl rfl (Va (Qi rfl Xg rfl (k3.cell (k := 1) rfl)) rfl rfl (Va (QY rfl QZ rfl h2) rfl rfl ?_)))))))
 refine Va (Zn (r := (Qa.length : Int) - 1) rfl rfl rfl (Qn (by omega))) rfl rfl (Pu rfl (Ni (hK14 (WC.block ?_))))
 refine WC.loop (fun (n : Nat) => [(1, .int .i64 a), (2, .pointer (some ⟨w.heap.size, 0, none⟩)), (4, .pointer (some ⟨W2.heap.size, 0, none⟩)), (5, .int .i64 ((n : Int) - 1))]) (fun (n : Nat) W => n <= Qa.length /\ Zf Qa a Qa.length = Zf Qa a n /\ Below w.heap.size w W /\ LL (W2.heap.size :: w.heap.size :: L) W /\ QC 128 (W2.heap.size :: w.heap.size :: L) W s1 (Qb.map Qq) /\ QC 129 (W2.heap.size :: w.heap.size :: L) W s2 (Qa.map QD) /\ Xe W w.heap.size [s1, s2, .int .i64 Qd, .bool Qc] /\ Xe W W2.heap.size (Qq z0)) (fun (n : Nat) => n) Qa.length (by repeat first | exact trivial | refine aR ?_ | refine aI (by omega) ?_) ⟨Nat.le_refl _, rfl, hB, hL, h1, h2, k3, k8⟩ ?_
 clear h1 h2 k3 k8 hB hL
 rintro K15 n W16 ⟨hi, hv, hB, hL, h1, h2, k3, k8⟩ hK15
 refine Sq fun K17 hK17 => (Sq fun K18 hK18 => (Rg (Pu rfl (Va (Yo rfl rfl rfl) rfl rfl (Ni (hK18 ?_))))))
 refine WC.cond rfl (fun c19 => ?_) (fun c19 => ?_)
 .
  replace c19 := dT c19
  refine WC.skip (hK17 (Sq fun K20 hK20 => (WC.block (Sq fun K21 hK21 => (Rg (Va (Qm (o1 := 1) rfl QG rfl rfl) rfl rfl (Va (Qi rfl Xg rfl (k3.cell (k := 1) rfl)) rfl rfl ?_)))))))
  refine Pu rfl ?_
  obtain ⟨r22, e23⟩ : ∃ x, Qa[(n - 1)]? = some x := ⟨_, List.getElem?_eq_getElem (by omega)⟩
  have Lr22 := JT h2 e23
  refine Ge (XR (n - 1) rfl QZ rfl rfl h2 (by omega) (XL e23)) rfl rfl ?_
  rintro u24 _ ⟨rfl, p25⟩
  refine Ge (VU 1 rfl Zw rfl p25 (cs' := [.int .i64 r22.1]) (by simp [QD, List.take_of_length_le, Qo, Lr22]) (Nat.succ_pos _)) rfl rfl ?_
  rintro u26 _ ⟨rfl, p27⟩
  refine Va (ZR rfl Qu rfl p27) rfl rfl (Pu rfl (Va (Zo rfl rfl rfl) rfl rfl (Ni (hK21 ?_))))
  refine WC.cond rfl (fun c28 => ?_) (fun c28 => ?_)
  .
   replace c28 := dT c28
   refine Sq fun K29 hK29 => (Rg (Va (Qm (o1 := 1) rfl QG rfl rfl) rfl rfl (Va (Qi rfl Xg rfl (k3.cell (k := 1) rfl)) rfl rfl (Pu rfl ?_))))
   refine Ge (XR (n - 1) rfl QZ rfl rfl h2 (by omega) (XL e23)) rfl rfl ?_
   rintro u30 _ ⟨rfl, p31⟩
   refine Ge (VU 128 rfl Y8 rfl p31 (cs' := (Qq r22.2)) (by simp [QD, List.take_of_length_le, Qo, Lr22]) (by simp [QD, Qo, Lr22])) rfl rfl ?_
   rintro u32 _ ⟨rfl, p33⟩
   refine Va (X6 rfl QA rfl p33 (by rw [Qo]; exact Lr22)) rfl rfl ?_
   refine WL.do (QB (vs := (Qq r22.2)) rfl Q2 rfl rfl rfl (YT r22.2) k8 (by rw [Qo]; exact Lr22) (by rw [Qo]; exact Xy)) rfl ?_
   rintro _ W34 ⟨k36, o35⟩
   clear k8
   replace hB := o35.below hB l12
   refine Ni (hK29 ?_)
   exact WC.ret fun a_ ha_ => hQ (QI rfl (.agg rfl QA k36.range (by rw [Qo]; exact Lr22)) (by rw [show UP Qb Qa a = r22.2 from (by unfold UP; rw [hv, show n = (n - 1) + 1 by omega, GW e23 c28])]) hB ha_)
  .
   replace c28 := dF c28
   refine WC.skip (hK20 (Rg (Pu rfl (Va (Zn (r := ((n : Int) - 1) - 1) rfl rfl rfl (Qn (by omega))) rfl rfl (Pu rfl (Ni ?_))))))
   exact hK15 (n - 1) ⟨(by omega), (by rw [hv, show n = (n - 1) + 1 by omega]; exact GV e23 c28), hB, hL, h1, h2, k3, k8⟩ (by omega) (by repeat first | exact trivial | refine aR ?_ | refine aI (by omega) ?_)
 .
  replace c19 := dF c19
  refine WC.exit ?_
  refine hK13 (Sq fun K37 hK37 => (Rg (Va (Qm (o1 := 0) rfl QE rfl rfl) rfl rfl (Va (Qi rfl Q9 rfl (k3.cell (k := 0) rfl)) rfl rfl (Pu rfl ?_)))))
  obtain ⟨r38, e39⟩ : ∃ x, Qb[a.toNat]? = some x := ⟨_, List.getElem?_eq_getElem (by omega)⟩
  have Lr38 := Ea h1 e39
  refine Ge (XR a.toNat rfl QX rfl rfl h1 (by omega) (XL e39)) rfl rfl ?_
  rintro u40 _ ⟨rfl, p41⟩
  refine Va (X6 rfl QA rfl p41 (by rw [Qo]; exact Lr38)) rfl rfl ?_
  refine WL.do (QB (vs := (Qq r38)) rfl Q2 rfl rfl rfl (YT r38) k8 (by rw [Qo]; exact Lr38) (by rw [Qo]; exact Xy)) rfl ?_
  rintro _ W42 ⟨k44, o43⟩
  clear k8
  replace hB := o43.below hB l12
  refine Ni (hK37 ?_)
  exact WC.ret fun a_ ha_ => hQ (QI rfl (.agg rfl QA k44.range (by rw [Qo]; exact Lr38)) (by rw [show UP Qb Qa a = r38 from (by unfold UP; rw [hv, show n = 0 by omega]; simp [Zf, e39])]) hB ha_)

set_option maxHeartbeats 1000000 in
theorem Qdp (Qb : List (List Int)) (Qa : List (Int × List Int)) (Qd : Int) (Qc : Bool) (s1 s2 : Value) (a : Int) (w : World) (L : List Nat) (hL : LL L w) (h1 : QC 128 L w s1 (Qb.map Qq)) (h2 : QC 129 L w s2 (Qa.map QD)) : CV Tryd.prog 59 [.agg #[s1, s2, .int .i64 Qd, .bool Qc], .int .i64 a] w fun v W => v = .tuple #[.agg (Qq (Xl Qb Qa Qc a).1).toArray, .int .i64 (Xl Qb Qa Qc a).2] := by
 refine QL (N := 27) (f := [(0, .agg #[s1, s2, .int .i64 Qd, .bool Qc]), (1, .int .i64 a)]) Tryd.func59 rfl rfl rfl rfl fun Q hQ hE => ?_
 have hB := Below.refl w.heap.size w
 have h1m : Qb.length <= maxLen := by have := h1.len; rwa [List.length_map] at this
 unfold maxLen at h1m
 have h2m : Qa.length <= maxLen := by have := h2.len; rwa [List.length_map] at this
 unfold maxLen at h2m
 refine Sq fun K1 hK1 => (Rg ?_)
 refine Ge (Xb rfl rfl rfl) rfl rfl ?_
 rintro _ W2 ⟨rfl, k3, b4, z5⟩
 have l6 := hB.size
 replace h1 := h1.more b4 (Nat.le_refl _)
 replace h2 := h2.more b4 (Nat.le_refl _)
 replace hB := Qe hB b4
 replace hL := LL.more hL z5
 refine Ge (Qs (cs := Qq z0) rfl Zx Ye) rfl rfl ?_
 rintro _ W7 ⟨rfl, k8, b9, z10⟩
 have l12 := hB.size
 replace h1 := h1.more b9 (Nat.le_refl _)
 replace h2 := h2.more b9 (Nat.le_refl _)
 replace k3 := k3.below b9
 replace hB := Qe hB b9
 replace hL := LL.more hL z10
 refine Pu rfl (Ni (hK1 (Sq fun K13 hK13 => (Sq fun K14 hK14 => (Rg (Va (Qg rfl Qf rfl k3.range rfl) rfl rfl ?_))))))
 refine Ge (QO rfl Tryd.func56 rfl rfl rfl (JQ Qb Qa Qd Qc _ _ W7 _ hL h1 h2)) rfl rfl ?_
 rintro _ W16 ⟨rfl, b15⟩
 replace h1 := h1.below b15
 replace h2 := h2.below b15
 replace k3 := k3.below b15
 replace k8 := k8.below b15
 replace hB := Qe hB b15
 replace hL := LL.below hL b15
 refine Va (XP rfl rfl) rfl rfl (Pu rfl ?_)
 refine WL.split 9 rfl (fun g17 => ?_) (fun g17 => ?_)
 .
  replace g17 := Q7 g17
  refine Of rfl (Of rfl (Pu rfl (Pu rfl (Of rfl (Of rfl (Of rfl (Of rfl ?_)))))))
  refine Of rfl (Pu rfl (Ni (hK14 (WC.condT rfl (Sq fun K18 hK18 => (Rg (Va (QP rfl rfl Uu) rfl rfl ?_)))))))
  refine WL.do (QB (vs := (Qq z0)) rfl Q2 rfl rfl rfl (YT z0) k8 (by rw [Qo]; exact Xy) (by rw [Qo]; exact Xy)) rfl ?_
  rintro _ W19 ⟨k21, o20⟩
  clear k8
  replace hB := o20.below hB l12
  refine Pu rfl (Ni (hK18 ?_))
  exact WC.ret fun a_ ha_ => hQ (QM rfl (.agg rfl QA k21.range (by rw [Qo]; exact Xy)) (.tmp rfl) (by rw [GK (by first | assumption | (simp_all; done) | omega)]) hB ha_)
 .
  replace g17 := Q4 g17
  refine Pu rfl (Va (Xh rfl rfl rfl) rfl rfl (Pu rfl (Pu rfl ?_)))
  refine WL.split 13 rfl (fun g22 => ?_) (fun g22 => ?_)
  .
   replace g22 := dT g22
   refine Of rfl (Of rfl (Of rfl (Of rfl (Of rfl (Pu rfl (Ni (hK14 ?_)))))))
   refine WC.condT rfl (Sq fun K23 hK23 => (Rg (Va (QP rfl rfl Uu) rfl rfl ?_)))
   refine WL.do (QB (vs := (Qq z0)) rfl Q2 rfl rfl rfl (YT z0) k8 (by rw [Qo]; exact Xy) (by rw [Qo]; exact Xy)) rfl ?_
   rintro _ W24 ⟨k26, o25⟩
   clear k8
   replace hB := o25.below hB l12
   refine Pu rfl (Ni (hK23 ?_))
   exact WC.ret fun a_ ha_ => hQ (QM rfl (.agg rfl QA k26.range (by rw [Qo]; exact Xy)) (.tmp rfl) (by rw [GK (by first | assumption | (simp_all; done) | omega)]) hB ha_)
  .
   replace g22 := dF g22
   refine Pu rfl (Va (Qm (o1 := 0) rfl QE rfl rfl) rfl rfl (Va (Qi rfl Q9 rfl (k3.cell (k := 0) rfl)) rfl rfl (Va (QY rfl QX rfl h1) rfl rfl (Va (Yo rfl rfl rfl) rfl rfl (Pu rfl (Ni (hK14 ?_)))))))
   refine WC.cond rfl (fun c27 => ?_) (fun c27 => ?_)
   .
    replace c27 := dT c27
    refine Sq fun K28 hK28 => (Rg (Va (QP rfl rfl Uu) rfl rfl ?_))
    refine WL.do (QB (vs := (Qq z0)) rfl Q2 rfl rfl rfl (YT z0) k8 (by rw [Qo]; exact Xy) (by rw [Qo]; exact Xy)) rfl ?_
    rintro _ W29 ⟨k31, o30⟩
    clear k8
    replace hB := o30.below hB l12
    refine Pu rfl (Ni (hK28 ?_))
    exact WC.ret fun a_ ha_ => hQ (QM rfl (.agg rfl QA k31.range (by rw [Qo]; exact Xy)) (.tmp rfl) (by rw [GK (by first | assumption | (simp_all; done) | omega)]) hB ha_)
   .
    replace c27 := dF c27
    refine WC.skip (hK13 (Sq fun K32 hK32 => (Sq fun K33 hK33 => (Rg (Va (Qm (o1 := 3) rfl Xu rfl rfl) rfl rfl (Va (Qi rfl Z7 rfl (k3.cell (k := 3) rfl)) rfl rfl (Ni ?_)))))))
    refine hK33 ?_
    refine WC.cond rfl (fun c34 => ?_) (fun c34 => ?_)
    .
     refine Sq fun K35 hK35 => (Rg (Va (QP rfl rfl Uu) rfl rfl ?_))
     refine WL.do (QB (vs := (Qq z0)) rfl Q2 rfl rfl rfl (YT z0) k8 (by rw [Qo]; exact Xy) (by rw [Qo]; exact Xy)) rfl ?_
     rintro _ W36 ⟨k38, o37⟩
     clear k8
     replace hB := o37.below hB l12
     refine Pu rfl (Ni (hK35 ?_))
     exact WC.ret fun a_ ha_ => hQ (QM rfl (.agg rfl QA k38.range (by rw [Qo]; exact Xy)) (.tmp rfl) (by rw [QaH (by first | assumption | (simp_all; done) | omega) (by first | assumption | (simp_all; done) | omega) (by first | assumption | (simp_all; done) | omega) (by first | assumption | (simp_all; done) | omega)]) hB ha_)
    .
     replace c34 := ZN c34
     refine WC.skip (hK32 (Sq fun K39 hK39 => (Rg (Va (Qg rfl Qf rfl k3.range rfl) rfl rfl (Pu rfl ?_)))))
     refine Ge (QO rfl Tryd.func77 rfl rfl rfl (QeH Qb Qa Qd Qc _ _ a W16 _ hL h1 h2 (by omega) (by omega))) rfl rfl ?_
     rintro _ W41 ⟨rfl, b40⟩
     replace h1 := h1.below b40
     replace h2 := h2.below b40
     replace k8 := k8.below b40
     replace hB := Qe hB b40
     refine WL.do (QB (vs := (Qq (UP Qb Qa a))) rfl Q2 rfl rfl rfl (YT (UP Qb Qa a)) k8 (by rw [Qo]; exact (Hw h1 h2 (by omega) (by omega))) (by rw [Qo]; exact Xy)) rfl ?_
     rintro _ W42 ⟨k44, o43⟩
     clear k8
     replace h1 := h1.only o43 (.head _)
     replace h2 := h2.only o43 (.head _)
     replace hB := o43.below hB l12
     refine Pu rfl (Ni (hK39 ?_))
     exact WC.ret fun a_ ha_ => hQ (QM rfl (.agg rfl QA k44.range (by rw [Qo]; exact (Hw h1 h2 (by omega) (by omega)))) (.tmp rfl) (by rw [QaG (by first | assumption | (simp_all; done) | omega) (by first | assumption | (simp_all; done) | omega) (by first | assumption | (simp_all; done) | omega) (by first | assumption | (simp_all; done) | omega)]) hB ha_)

set_option maxHeartbeats 1000000 in
theorem QbJ (Qb : List (List Int)) (Qa : List (Int × List Int)) (Qd : Int) (Qc : Bool) (s1 s2 : Value) (a : Int) (z : List Int) (w : World) (L : List Nat) (hL : LL L w) (h1 : QC 128 L w s1 (Qb.map Qq)) (h2 : QC 129 L w s2 (Qa.map QD))  (hL0 : LL L w) (hfu : -9223372036854775808 <= Qd /\ Qd <= 9223372036854775807) (hz : z.length = 128) : CV Tryd.prog 66 [.agg #[s1, s2, .int .i64 Qd, .bool Qc], .int .i64 a, .agg (Qq z).toArray] w fun v W => ∃ s1' s2', v = .tuple #[.agg #[s1', s2', .int .i64 (Q1 Qb Qa Qd Qc a z).Qd, .bool (Q1 Qb Qa Qd Qc a z).Qc], .int .i64 (Q1 Qb Qa Qd Qc a z).err] /\ QC 128 L W s1' ((Q1 Qb Qa Qd Qc a z).Qb.map Qq) /\ QC 129 L W s2' ((Q1 Qb Qa Qd Qc a z).Qa.map QD) := by
 refine QL (N := 54) (f := [(0, .agg #[s1, s2, .int .i64 Qd, .bool Qc]), (1, .int .i64 a), (2, .agg (Qq z).toArray)]) Tryd.func66 rfl rfl rfl rfl fun Q hQ hE => ?_
 have hB := Below.refl w.heap.size w
 have h1m : Qb.length <= maxLen := by have := h1.len; rwa [List.length_map] at this
 unfold maxLen at h1m
 have h2m : Qa.length <= maxLen := by have := h2.len; rwa [List.length_map] at this
 unfold maxLen at h2m
 refine Sq fun K1 hK1 => (Rg ?_)
 refine Ge (Xb rfl rfl rfl) rfl rfl ?_
 rintro _ W2 ⟨rfl, k3, b4, z5⟩
 have l6 := hB.size
 replace h1 := h1.more b4 (Nat.le_refl _)
 replace h2 := h2.more b4 (Nat.le_refl _)
 replace hB := Qe hB b4
 replace hL := LL.more hL z5
 refine Ge (Xb (cs := (Qq z)) rfl rfl rfl) rfl rfl ?_
 rintro _ W7 ⟨rfl, k8, b9, z10⟩
 have l12 := hB.size
 replace h1 := h1.more b9 (Nat.le_refl _)
 replace h2 := h2.more b9 (Nat.le_refl _)
 replace k3 := k3.below b9
 replace hB := Qe hB b9
 replace hL := LL.more hL z10
 refine Ge (Qs rfl QU rfl) rfl rfl ?_
 rintro _ W13 ⟨rfl, k14, b15, z16⟩
 have l19 := hB.size
 replace h1 := h1.more b15 (Nat.le_refl _)
 replace h2 := h2.more b15 (Nat.le_refl _)
 replace k3 := k3.below b15
 replace k8 := k8.below b15
 replace hB := Qe hB b15
 replace hL := LL.more hL z16
 refine Pu rfl (Ni (hK1 (Sq fun K20 hK20 => (Sq fun K21 hK21 => (Rg (Va (Qg rfl Qf rfl k3.range rfl) rfl rfl ?_))))))
 refine Ge (QO rfl Tryd.func56 rfl rfl rfl (JQ Qb Qa Qd Qc _ _ W13 _ hL h1 h2)) rfl rfl ?_
 rintro _ W23 ⟨rfl, b22⟩
 replace h1 := h1.below b22
 replace h2 := h2.below b22
 replace k3 := k3.below b22
 replace k8 := k8.below b22
 replace k14 := k14.below b22
 replace hB := Qe hB b22
 replace hL := LL.below hL b22
 refine Va (XP rfl rfl) rfl rfl (Pu rfl ?_)
 refine WL.split 13 rfl (fun g24 => ?_) (fun g24 => ?_)
 .
  replace g24 := Q7 g24
  refine Of rfl (Of rfl (Pu rfl (Pu rfl (Of rfl (Of rfl (Of rfl (Of rfl ?_)))))))
  refine Of rfl (Pu rfl (Ni (hK21 (WC.condT rfl (Sq fun K25 hK25 => (Rg (Va (Qg rfl Qf rfl k3.range rfl) rfl rfl ?_)))))))
  refine WL.do (Qh (cs' := [s1, s2, .int .i64 Qd, .bool Qc]) (vs := [s1, s2, .int .i64 Qd, .bool Qc]) rfl Qj rfl rfl rfl (oC h1.one (oC h2.one (oC rfl (oC rfl Qk)))) k14 rfl (nB rfl) rfl) rfl ?_
  rintro _ W26 ⟨k28, o27⟩
  clear k14
  replace h1 := h1.only o27 (.head _)
  replace h2 := h2.only o27 (.head _)
  replace hB := o27.below hB l19
  refine Pu rfl (Ni (hK25 ?_))
  exact WC.ret fun a_ ha_ => hQ (QM rfl (.agg rfl Qf k28.range rfl) (.tmp rfl) (by rw [Kh (by first | assumption | (simp_all; done) | omega)]; exact ⟨_, _, rfl, (h1.less (fun x hx => (.tail _ (.tail _ (.tail _ hx))))), (h2.less (fun x hx => (.tail _ (.tail _ (.tail _ hx)))))⟩) hB ha_)
 .
  replace g24 := Q4 g24
  have hr := Zz g24; obtain ⟨hne, hsm, hlm, hrt⟩ := hr
  refine Pu rfl (Va (Xh rfl rfl rfl) rfl rfl (Pu rfl (Pu rfl ?_)))
  refine WL.split 17 rfl (fun g29 => ?_) (fun g29 => ?_)
  .
   replace g29 := dT g29
   refine Of rfl (Of rfl (Of rfl (Of rfl (Of rfl (Pu rfl (Ni (hK21 ?_)))))))
   refine WC.condT rfl (Sq fun K30 hK30 => (Rg (Va (Qg rfl Qf rfl k3.range rfl) rfl rfl ?_)))
   refine WL.do (Qh (cs' := [s1, s2, .int .i64 Qd, .bool Qc]) (vs := [s1, s2, .int .i64 Qd, .bool Qc]) rfl Qj rfl rfl rfl (oC h1.one (oC h2.one (oC rfl (oC rfl Qk)))) k14 rfl (nB rfl) rfl) rfl ?_
   rintro _ W31 ⟨k33, o32⟩
   clear k14
   replace h1 := h1.only o32 (.head _)
   replace h2 := h2.only o32 (.head _)
   replace hB := o32.below hB l19
   refine Pu rfl (Ni (hK30 ?_))
   exact WC.ret fun a_ ha_ => hQ (QM rfl (.agg rfl Qf k33.range rfl) (.tmp rfl) (by rw [Kh (by first | assumption | (simp_all; done) | omega)]; exact ⟨_, _, rfl, (h1.less (fun x hx => (.tail _ (.tail _ (.tail _ hx))))), (h2.less (fun x hx => (.tail _ (.tail _ (.tail _ hx)))))⟩) hB ha_)
  .
   replace g29 := dF g29
   refine Pu rfl (Va (Qm (o1 := 0) rfl QE rfl rfl) rfl rfl (Va (Qi rfl Q9 rfl (k3.cell (k := 0) rfl)) rfl rfl (Va (QY rfl QX rfl h1) rfl rfl (Va (Yo rfl rfl rfl) rfl rfl (Pu rfl (Ni (hK21 ?_)))))))
   refine WC.cond rfl (fun c34 => ?_) (fun c34 => ?_)
   .
    replace c34 := dT c34
    refine Sq fun K35 hK35 => (Rg (Va (Qg rfl Qf rfl k3.range rfl) rfl rfl ?_))
    refine WL.do (Qh (cs' := [s1, s2, .int .i64 Qd, .bool Qc]) (vs := [s1, s2, .int .i64 Qd, .bool Qc]) rfl Qj rfl rfl rfl (oC h1.one (oC h2.one (oC rfl (oC rfl Qk)))) k14 rfl (nB rfl) rfl) rfl ?_
    rintro _ W36 ⟨k38, o37⟩
    clear k14
    replace h1 := h1.only o37 (.head _)
    replace h2 := h2.only o37 (.head _)
    replace hB := o37.below hB l19
    refine Pu rfl (Ni (hK35 ?_))
    exact WC.ret fun a_ ha_ => hQ (QM rfl (.agg rfl Qf k38.range rfl) (.tmp rfl) (by rw [Kh (by first | assumption | (simp_all; done) | omega)]; exact ⟨_, _, rfl, (h1.less (fun x hx => (.tail _ (.tail _ (.tail _ hx))))), (h2.less (fun x hx => (.tail _ (.tail _ (.tail _ hx)))))⟩) hB ha_)
   .
    replace c34 := dF c34
    refine WC.skip (hK20 (Sq fun K39 hK39 => (Sq fun K40 hK40 => (Rg (Va (Qm (o1 := 3) rfl Xu rfl rfl) rfl rfl (Va (Qi rfl Z7 rfl (k3.cell (k := 3) rfl)) rfl rfl (Va (XP rfl rfl) rfl rfl ?_)))))))
    refine Pu rfl ?_
    refine WL.split 28 rfl (fun g41 => ?_) (fun g41 => ?_)
    .
     replace g41 := Q7 g41
     replace g41 := ZN g41
     refine Va (Qm (o1 := 1) rfl QG rfl rfl) rfl rfl (Va (Qi rfl Xg rfl (k3.cell (k := 1) rfl)) rfl rfl (Va (QY rfl QZ rfl h2) rfl rfl (Va (Zo rfl rfl rfl) rfl rfl (Pu rfl (Ni (hK40 ?_))))))
     refine WC.cond rfl (fun c42 => ?_) (fun c42 => ?_)
     .
      replace c42 := dT c42
      refine Sq fun K43 hK43 => (Rg (Va (Qg rfl Qf rfl k3.range rfl) rfl rfl ?_))
      refine WL.do (Qh (cs' := [s1, s2, .int .i64 Qd, .bool Qc]) (vs := [s1, s2, .int .i64 Qd, .bool Qc]) rfl Qj rfl rfl rfl (oC h1.one (oC h2.one (oC rfl (oC rfl Qk)))) k14 rfl (nB rfl) rfl) rfl ?_
      rintro _ W44 ⟨k46, o45⟩
      clear k14
      replace h1 := h1.only o45 (.head _)
      replace h2 := h2.only o45 (.head _)
      replace hB := o45.below hB l19
      refine Pu rfl (Ni (hK43 ?_))
      exact WC.ret fun a_ ha_ => hQ (QM rfl (.agg rfl Qf k46.range rfl) (.tmp rfl) (by rw [EI (by first | assumption | (simp_all; done) | omega) (by first | assumption | (simp_all; done) | omega) (by first | assumption | (simp_all; done) | omega) (by first | assumption | (simp_all; done) | omega) (by first | assumption | (simp_all; done) | omega)]; exact ⟨_, _, rfl, (h1.less (fun x hx => (.tail _ (.tail _ (.tail _ hx))))), (h2.less (fun x hx => (.tail _ (.tail _ (.tail _ hx)))))⟩) hB ha_)
     .
      replace c42 := dF c42
      refine WC.skip (hK39 (Sq fun K47 hK47 => (Rg (Va (Qg rfl Qf rfl k3.range rfl) rfl rfl ?_))))
      refine Ge (QO rfl Tryd.func83 rfl rfl rfl (EQ Qb Qa Qd Qc _ _ W23 _ hL h1 h2 hfu)) rfl rfl ?_
      rintro _ W49 ⟨rfl, b48⟩
      replace h1 := h1.below b48
      replace h2 := h2.below b48
      replace k8 := k8.below b48
      replace k14 := k14.below b48
      replace hB := Qe hB b48
      replace hL := LL.below hL b48
      refine Pu rfl (Pu rfl (Pu rfl ?_))
      refine Ge (Qs rfl QU rfl) rfl rfl ?_
      rintro _ W50 ⟨rfl, k51, b52, z53⟩
      have n55 : W2.heap.size ≠ W49.heap.size := Nat.ne_of_lt k8.lt
      have n56 : W7.heap.size ≠ W49.heap.size := Nat.ne_of_lt k14.lt
      have l57 := hB.size
      replace h1 := h1.more b52 (Nat.le_refl _)
      replace h2 := h2.more b52 (Nat.le_refl _)
      replace k8 := k8.below b52
      replace k14 := k14.below b52
      replace hB := Qe hB b52
      replace hL := LL.more hL z53
      refine WL.do (Qh (cs' := [s1, s2, .int .i64 ((Z0 Qd Qc).1), .bool ((Z0 Qd Qc).2.1)]) (vs := [s1, s2, .int .i64 ((Z0 Qd Qc).1), .bool ((Z0 Qd Qc).2.1)]) rfl Qj rfl rfl rfl (oC h1.one (oC h2.one (oC rfl (oC rfl Qk)))) k51 rfl (nB rfl) rfl) rfl ?_
      rintro _ W58 ⟨k60, o59⟩
      replace k8 := k8.other o59 n55
      replace k14 := k14.other o59 n56
      clear k51
      replace h1 := h1.only o59 (.head _)
      replace h2 := h2.only o59 (.head _)
      replace hB := o59.below hB l57
      replace hL := LL.only hL o59
      refine Pu rfl (Ni (hK47 (Sq fun K61 hK61 => (Sq fun K62 hK62 => (Rg (Pu rfl (Va (XP rfl rfl) rfl rfl ?_)))))))
      refine Ni (hK62 ?_)
      refine WC.cond rfl (fun c63 => ?_) (fun c63 => ?_)
      .
       replace c63 := Q7 c63
       refine Sq fun K64 hK64 => (Rg (Va (Qg rfl Qf rfl k60.range rfl) rfl rfl ?_))
       refine WL.do (Qh (cs' := [s1, s2, .int .i64 ((Z0 Qd Qc).1), .bool ((Z0 Qd Qc).2.1)]) (vs := [s1, s2, .int .i64 ((Z0 Qd Qc).1), .bool ((Z0 Qd Qc).2.1)]) rfl Qj rfl rfl rfl (oC h1.one (oC h2.one (oC rfl (oC rfl Qk)))) k14 rfl (nB rfl) rfl) rfl ?_
       rintro _ W65 ⟨k67, o66⟩
       clear k14
       replace h1 := h1.only o66 (.tail _ (.head _))
       replace h2 := h2.only o66 (.tail _ (.head _))
       replace hB := o66.below hB l19
       refine Pu rfl (Ni (hK64 ?_))
       exact WC.ret fun a_ ha_ => hQ (QM rfl (.agg rfl Qf k67.range rfl) (.tmp rfl) (by rw [Gk (by first | assumption | (simp_all; done) | omega) (by first | assumption | (simp_all; done) | omega) (by first | assumption | (simp_all; done) | omega) (by first | assumption | (simp_all; done) | omega) (by first | assumption | (simp_all; done) | omega)]; exact ⟨_, _, rfl, (h1.less (fun x hx => (.tail _ (.tail _ (.tail _ (.tail _ hx)))))), (h2.less (fun x hx => (.tail _ (.tail _ (.tail _ (.tail _ hx))))))⟩) hB ha_)
      .
       replace c63 := Q4 c63
       refine WC.skip (hK61 (Sq fun K68 hK68 => ?_))
       refine dM 8 [(some 43, .by fun u W => KR 129 W58.heap.size u W), (some 44, .is (.pointer (some ⟨W49.heap.size, 1, none⟩))), (some 45, .is (s2)), (some 46, .by fun u W => Qbi 129 W58.heap.size (Qa.map QD) u W), (some 47, .is (.int .i64 a)), (some 48, .is (.agg (Qq z).toArray)), (some 49, .is (.agg (QD (a, z)).toArray)), (some 50, .by fun u W => QC 129 (W49.heap.size :: W7.heap.size :: W2.heap.size :: w.heap.size :: L) W u [(QD (a, z))])] [[], [], [1], [0, 2], [], [], [4, 5], [6]] ⟨fun _ _ _ hb h => h.below hb, fun _ _ _ hb h => h.below hb, fun _ _ _ hb h => h.below hb, trivial⟩ ?_ ?_
       .
        refine Dc (fun Wd hd => ?_) ?_
        .
         exact (G0 rfl Ys (by decide)).mono (fun v W' h => ⟨h.1, h.2.le hd.size⟩)
        refine Dc (fun Wd hd => ?_) ?_
        .
         exact Dd (Qm (o1 := 1) rfl QG rfl rfl) rfl
        refine Dc (fun Wd hd => ?_) ?_
        .
         have k60 := k60.below hd
         exact Dd (Qi rfl Xg rfl (k60.cell (k := 1) rfl)) rfl
        refine Dc (fun Wd hd => ?_) ?_
        .
         intro u8_0 p8_0
         have h2 := h2.below hd
         exact (Dj rfl Ys rfl rfl p8_0 h2 (by simp; unfold maxLen; omega) (by simp; omega) hd.size).mono (fun v W' h => ⟨h.1, h.2⟩)
        refine Dc (fun Wd hd => ?_) ?_
        .
         exact Dd (Qt rfl rfl) rfl
        refine Dc (fun Wd hd => ?_) ?_
        .
         have k8 := k8.below hd
         exact Dd (Qg rfl QA rfl k8.range (by rw [Qo]; exact hz)) rfl
        refine Dc (fun Wd hd => ?_) ?_
        .
         exact Dd (QP rfl rfl (Dm _ _ hz)) rfl
        refine Dc (fun Wd hd => ?_) ?_
        .
         exact (ZJ (r := (QD (a, z))) rfl Ys (by decide) (by decide) rfl rfl (by simp [QD, Qo, hz])).mono (fun v W' h => ⟨h.2.1, h.1.notin (LL.below hL hd) (Nat.le_refl _)⟩)
        exact trivial
       .
        intro W69 b70
        intro _ _
        rintro u8_3 ⟨B8_3, q8_3, k8_3⟩
        intro u8_7 p8_7
        have n73 : W7.heap.size ≠ B8_3 := Nat.ne_of_lt (Nat.lt_of_lt_of_le k14.lt q8_3)
        have n74 : W49.heap.size ≠ B8_3 := Nat.ne_of_lt (Nat.lt_of_lt_of_le k60.lt q8_3)
        replace h1 := h1.more b70 q8_3
        replace k14 := k14.below b70
        replace k60 := k60.below b70
        have l75 := Nat.le_trans hB.size q8_3
        replace hB := Qe hB b70
        refine Ge (Vt (rs := Qa.map QD) (news := [(QD (a, z))]) rfl Ys rfl rfl k8_3 p8_7 (fun r hr => by rw [List.mem_singleton.1 hr]; exact Qe9 _) (by simp; unfold maxLen; omega) (by simp; omega)) rfl rfl ?_
        rintro u79 W76 ⟨B80, k77, g78⟩
        have n83 : W7.heap.size ≠ B80 := k14.grow_ne g78 n73
        have n84 : W49.heap.size ≠ B80 := k60.grow_ne g78 n74
        have l85 := g78.le l75 hB.size
        replace h1 := h1.grow' g78 (.head _)
        replace k14 := k14.grow g78 n73
        replace k60 := k60.grow g78 n74
        replace hB := g78.below hB l75 hB.size
        rw [show (Qa.map QD) ++ [QD (a, z)] = (Qa ++ [(a, z)]).map QD from by simp] at k77
        refine Va (Qm (o1 := 1) rfl QG rfl rfl) rfl rfl ?_
        refine WL.do (Qh (cs' := [s1, u79, .int .i64 ((Z0 Qd Qc).1), .bool ((Z0 Qd Qc).2.1)]) (vs := [u79]) rfl YK rfl rfl (Uo k77.one) (oC k77.one Qk) k60 rfl (nB rfl) rfl) rfl ?_
        rintro _ W86 ⟨k88, o87⟩
        replace k14 := k14.other o87 n56
        replace k77 := k77.other o87 n84.symm
        clear k60
        replace h1 := h1.only o87 (.tail _ (.tail _ (.head _)))
        replace hB := o87.below hB l57
        refine Ni (hK68 (Sq fun K89 hK89 => (Rg (Va (Qg rfl Qf rfl k88.range rfl) rfl rfl ?_))))
        refine WL.do (Qh (cs' := [s1, u79, .int .i64 ((Z0 Qd Qc).1), .bool ((Z0 Qd Qc).2.1)]) (vs := [s1, u79, .int .i64 ((Z0 Qd Qc).1), .bool ((Z0 Qd Qc).2.1)]) rfl Qj rfl rfl rfl (oC h1.one (oC k77.one (oC rfl (oC rfl Qk)))) k14 rfl (nB rfl) rfl) rfl ?_
        rintro _ W90 ⟨k92, o91⟩
        replace k77 := k77.other o91 n83.symm
        clear k14
        replace h1 := h1.only o91 (.tail _ (.tail _ (.tail _ (.head _))))
        replace hB := o91.below hB l19
        refine Pu rfl (Ni (hK89 ?_))
        exact WC.ret fun a_ ha_ => hQ (QM rfl (.agg rfl Qf k92.range rfl) (.tmp rfl) (by rw [Gj (by first | assumption | (simp_all; done) | omega) (by first | assumption | (simp_all; done) | omega) (by first | assumption | (simp_all; done) | omega) (by first | assumption | (simp_all; done) | omega) (by first | assumption | (simp_all; done) | omega)]; exact ⟨_, _, rfl, (h1.less (fun x hx => (.tail _ (.tail _ (.tail _ (.tail _ (.tail _ (.tail _ hx)))))))), (k77.notin hL0 l85)⟩) hB ha_)
    .
     replace g41 := Q4 g41
     refine Of rfl (Of rfl (Of rfl (Of rfl (Pu rfl (Ni (hK40 (WC.condF rfl ?_)))))))
     refine WC.skip (hK39 (Sq fun K93 hK93 => (Rg (Va (Qg rfl Qf rfl k3.range rfl) rfl rfl ?_))))
     refine Ge (QO rfl Tryd.func83 rfl rfl rfl (EQ Qb Qa Qd Qc _ _ W23 _ hL h1 h2 hfu)) rfl rfl ?_
     rintro _ W95 ⟨rfl, b94⟩
     replace h1 := h1.below b94
     replace h2 := h2.below b94
     replace k8 := k8.below b94
     replace k14 := k14.below b94
     replace hB := Qe hB b94
     replace hL := LL.below hL b94
     refine Pu rfl (Pu rfl (Pu rfl ?_))
     refine Ge (Qs rfl QU rfl) rfl rfl ?_
     rintro _ W96 ⟨rfl, k97, b98, z99⟩
     have n101 : W2.heap.size ≠ W95.heap.size := Nat.ne_of_lt k8.lt
     have n102 : W7.heap.size ≠ W95.heap.size := Nat.ne_of_lt k14.lt
     have l103 := hB.size
     replace h1 := h1.more b98 (Nat.le_refl _)
     replace h2 := h2.more b98 (Nat.le_refl _)
     replace k8 := k8.below b98
     replace k14 := k14.below b98
     replace hB := Qe hB b98
     replace hL := LL.more hL z99
     refine WL.do (Qh (cs' := [s1, s2, .int .i64 ((Z0 Qd Qc).1), .bool ((Z0 Qd Qc).2.1)]) (vs := [s1, s2, .int .i64 ((Z0 Qd Qc).1), .bool ((Z0 Qd Qc).2.1)]) rfl Qj rfl rfl rfl (oC h1.one (oC h2.one (oC rfl (oC rfl Qk)))) k97 rfl (nB rfl) rfl) rfl ?_
     rintro _ W104 ⟨k106, o105⟩
     replace k8 := k8.other o105 n101
     replace k14 := k14.other o105 n102
     clear k97
     replace h1 := h1.only o105 (.head _)
     replace h2 := h2.only o105 (.head _)
     replace hB := o105.below hB l103
     replace hL := LL.only hL o105
     refine Pu rfl (Ni (hK93 (Sq fun K107 hK107 => (Sq fun K108 hK108 => (Rg (Pu rfl (Va (XP rfl rfl) rfl rfl ?_)))))))
     refine Ni (hK108 ?_)
     refine WC.cond rfl (fun c109 => ?_) (fun c109 => ?_)
     .
      replace c109 := Q7 c109
      refine Sq fun K110 hK110 => (Rg (Va (Qg rfl Qf rfl k106.range rfl) rfl rfl ?_))
      refine WL.do (Qh (cs' := [s1, s2, .int .i64 ((Z0 Qd Qc).1), .bool ((Z0 Qd Qc).2.1)]) (vs := [s1, s2, .int .i64 ((Z0 Qd Qc).1), .bool ((Z0 Qd Qc).2.1)]) rfl Qj rfl rfl rfl (oC h1.one (oC h2.one (oC rfl (oC rfl Qk)))) k14 rfl (nB rfl) rfl) rfl ?_
      rintro _ W111 ⟨k113, o112⟩
      clear k14
      replace h1 := h1.only o112 (.tail _ (.head _))
      replace h2 := h2.only o112 (.tail _ (.head _))
      replace hB := o112.below hB l19
      refine Pu rfl (Ni (hK110 ?_))
      exact WC.ret fun a_ ha_ => hQ (QM rfl (.agg rfl Qf k113.range rfl) (.tmp rfl) (by rw [Gk (by first | assumption | (simp_all; done) | omega) (by first | assumption | (simp_all; done) | omega) (by first | assumption | (simp_all; done) | omega) (by first | assumption | (simp_all; done) | omega) (by first | assumption | (simp_all; done) | omega)]; exact ⟨_, _, rfl, (h1.less (fun x hx => (.tail _ (.tail _ (.tail _ (.tail _ hx)))))), (h2.less (fun x hx => (.tail _ (.tail _ (.tail _ (.tail _ hx))))))⟩) hB ha_)
     .
      replace c109 := Q4 c109
      refine WC.skip (hK107 (Sq fun K114 hK114 => ?_))
      refine dM 8 [(some 43, .by fun u W => KR 129 W104.heap.size u W), (some 44, .is (.pointer (some ⟨W95.heap.size, 1, none⟩))), (some 45, .is (s2)), (some 46, .by fun u W => Qbi 129 W104.heap.size (Qa.map QD) u W), (some 47, .is (.int .i64 a)), (some 48, .is (.agg (Qq z).toArray)), (some 49, .is (.agg (QD (a, z)).toArray)), (some 50, .by fun u W => QC 129 (W95.heap.size :: W7.heap.size :: W2.heap.size :: w.heap.size :: L) W u [(QD (a, z))])] [[], [], [1], [0, 2], [], [], [4, 5], [6]] ⟨fun _ _ _ hb h => h.below hb, fun _ _ _ hb h => h.below hb, fun _ _ _ hb h => h.below hb, trivial⟩ ?_ ?_
      .
       refine Dc (fun Wd hd => ?_) ?_
       .
        exact (G0 rfl Ys (by decide)).mono (fun v W' h => ⟨h.1, h.2.le hd.size⟩)
       refine Dc (fun Wd hd => ?_) ?_
       .
        exact Dd (Qm (o1 := 1) rfl QG rfl rfl) rfl
       refine Dc (fun Wd hd => ?_) ?_
       .
        have k106 := k106.below hd
        exact Dd (Qi rfl Xg rfl (k106.cell (k := 1) rfl)) rfl
       refine Dc (fun Wd hd => ?_) ?_
       .
        intro u8_0 p8_0
        have h2 := h2.below hd
        exact (Dj rfl Ys rfl rfl p8_0 h2 (by simp; unfold maxLen; omega) (by simp; omega) hd.size).mono (fun v W' h => ⟨h.1, h.2⟩)
       refine Dc (fun Wd hd => ?_) ?_
       .
        exact Dd (Qt rfl rfl) rfl
       refine Dc (fun Wd hd => ?_) ?_
       .
        have k8 := k8.below hd
        exact Dd (Qg rfl QA rfl k8.range (by rw [Qo]; exact hz)) rfl
       refine Dc (fun Wd hd => ?_) ?_
       .
        exact Dd (QP rfl rfl (Dm _ _ hz)) rfl
       refine Dc (fun Wd hd => ?_) ?_
       .
        exact (ZJ (r := (QD (a, z))) rfl Ys (by decide) (by decide) rfl rfl (by simp [QD, Qo, hz])).mono (fun v W' h => ⟨h.2.1, h.1.notin (LL.below hL hd) (Nat.le_refl _)⟩)
       exact trivial
      .
       intro W115 b116
       intro _ _
       rintro u8_3 ⟨B8_3, q8_3, k8_3⟩
       intro u8_7 p8_7
       have n119 : W7.heap.size ≠ B8_3 := Nat.ne_of_lt (Nat.lt_of_lt_of_le k14.lt q8_3)
       have n120 : W95.heap.size ≠ B8_3 := Nat.ne_of_lt (Nat.lt_of_lt_of_le k106.lt q8_3)
       replace h1 := h1.more b116 q8_3
       replace k14 := k14.below b116
       replace k106 := k106.below b116
       have l121 := Nat.le_trans hB.size q8_3
       replace hB := Qe hB b116
       refine Ge (Vt (rs := Qa.map QD) (news := [(QD (a, z))]) rfl Ys rfl rfl k8_3 p8_7 (fun r hr => by rw [List.mem_singleton.1 hr]; exact Qe9 _) (by simp; unfold maxLen; omega) (by simp; omega)) rfl rfl ?_
       rintro u125 W122 ⟨B126, k123, g124⟩
       have n129 : W7.heap.size ≠ B126 := k14.grow_ne g124 n119
       have n130 : W95.heap.size ≠ B126 := k106.grow_ne g124 n120
       have l131 := g124.le l121 hB.size
       replace h1 := h1.grow' g124 (.head _)
       replace k14 := k14.grow g124 n119
       replace k106 := k106.grow g124 n120
       replace hB := g124.below hB l121 hB.size
       rw [show (Qa.map QD) ++ [QD (a, z)] = (Qa ++ [(a, z)]).map QD from by simp] at k123
       refine Va (Qm (o1 := 1) rfl QG rfl rfl) rfl rfl ?_
       refine WL.do (Qh (cs' := [s1, u125, .int .i64 ((Z0 Qd Qc).1), .bool ((Z0 Qd Qc).2.1)]) (vs := [u125]) rfl YK rfl rfl (Uo k123.one) (oC k123.one Qk) k106 rfl (nB rfl) rfl) rfl ?_
       rintro _ W132 ⟨k134, o133⟩
       replace k14 := k14.other o133 n102
       replace k123 := k123.other o133 n130.symm
       clear k106
       replace h1 := h1.only o133 (.tail _ (.tail _ (.head _)))
       replace hB := o133.below hB l103
       refine Ni (hK114 (Sq fun K135 hK135 => (Rg (Va (Qg rfl Qf rfl k134.range rfl) rfl rfl ?_))))
       refine WL.do (Qh (cs' := [s1, u125, .int .i64 ((Z0 Qd Qc).1), .bool ((Z0 Qd Qc).2.1)]) (vs := [s1, u125, .int .i64 ((Z0 Qd Qc).1), .bool ((Z0 Qd Qc).2.1)]) rfl Qj rfl rfl rfl (oC h1.one (oC k123.one (oC rfl (oC rfl Qk)))) k14 rfl (nB rfl) rfl) rfl ?_
       rintro _ W136 ⟨k138, o137⟩
       replace k123 := k123.other o137 n129.symm
       clear k14
       replace h1 := h1.only o137 (.tail _ (.tail _ (.tail _ (.head _))))
       replace hB := o137.below hB l19
       refine Pu rfl (Ni (hK135 ?_))
       exact WC.ret fun a_ ha_ => hQ (QM rfl (.agg rfl Qf k138.range rfl) (.tmp rfl) (by rw [Gj (by first | assumption | (simp_all; done) | omega) (by first | assumption | (simp_all; done) | omega) (by first | assumption | (simp_all; done) | omega) (by first | assumption | (simp_all; done) | omega) (by first | assumption | (simp_all; done) | omega)]; exact ⟨_, _, rfl, (h1.less (fun x hx => (.tail _ (.tail _ (.tail _ (.tail _ (.tail _ (.tail _ hx)))))))), (k123.notin hL0 l131)⟩) hB ha_)

theorem Qbw {Qb : List (List Int)} {Qa : List (Int × List Int)} {Qd : Int} {Qc : Bool} (h : QH Qb Qa = false) : Xz Qb Qa Qd Qc = ⟨Qb, Qa, Qd, Qc, 1⟩ := by unfold Xz; rw [if_pos h]
theorem Qau {Qb : List (List Int)} {Qa : List (Int × List Int)} {Qd : Int} {Qc : Bool} (h : QH Qb Qa = true) (hs : (Z0 Qd Qc).2.2 = false) : Xz Qb Qa Qd Qc = ⟨Qb, Qa, (Z0 Qd Qc).1, (Z0 Qd Qc).2.1, 9⟩ := by
  unfold Xz
  by_cases hd : Qc = true
  . simp [h, hd, Z0]
  . by_cases hf : Qd = 0
    . simp [h, hd, hf, Z0, Q8]
    . exfalso; simp [Z0, hd, hf] at hs; split at hs <;> simp at hs
theorem Qat {Qb : List (List Int)} {Qa : List (Int × List Int)} {Qd : Int} {Qc : Bool} (h : QH Qb Qa = true) (hs : (Z0 Qd Qc).2.2 = true) : Xz Qb Qa Qd Qc = ⟨XT (fun _ _ z => z) Qa Qb 0, [], (Z0 Qd Qc).1, (Z0 Qd Qc).2.1, 0⟩ := by
  unfold Xz
  by_cases hd : Qc = true
  . simp [hd, Z0] at hs
  . by_cases hf : Qd = 0
    . simp [hf, Z0] at hs
    . by_cases hp : 0 < Qd <;> simp [h, hd, hf, hp, Z0, Q8]
theorem H7 {l : List (Int × List Int)} {cur : List (List Int)} {i : Nat} {p : Int × List Int} (h : l[i]? = some p) : XT (fun _ _ z => z) (l.drop i) cur i = XT (fun _ _ z => z) (l.drop (i + 1)) (cur.set p.1.toNat p.2) (i + 1) := by
 obtain ⟨hl, he⟩ := List.getElem?_eq_some_iff.1 h
 rw [List.drop_eq_getElem_cons hl, he, XT]
set_option maxHeartbeats 1000000 in
theorem Qdo (Qb : List (List Int)) (Qa : List (Int × List Int)) (Qd : Int) (Qc : Bool) (s1 s2 : Value) (w : World) (L : List Nat) (hL : LL L w) (h1 : QC 128 L w s1 (Qb.map Qq)) (h2 : QC 129 L w s2 (Qa.map QD))  (hL0 : LL L w) (hfu : -9223372036854775808 <= Qd /\ Qd <= 9223372036854775807) : CV Tryd.prog 68 [.agg #[s1, s2, .int .i64 Qd, .bool Qc]] w fun v W => ∃ s1' s2', v = .tuple #[.agg #[s1', s2', .int .i64 (Xz Qb Qa Qd Qc).Qd, .bool (Xz Qb Qa Qd Qc).Qc], .int .i64 (Xz Qb Qa Qd Qc).err] /\ QC 128 L W s1' ((Xz Qb Qa Qd Qc).Qb.map Qq) /\ QC 129 L W s2' ((Xz Qb Qa Qd Qc).Qa.map QD) := by
 refine QL (N := 48) (f := [(0, .agg #[s1, s2, .int .i64 Qd, .bool Qc])]) Tryd.func68 rfl rfl rfl rfl fun Q hQ hE => ?_
 have hB := Below.refl w.heap.size w
 have h1m : Qb.length <= maxLen := by have := h1.len; rwa [List.length_map] at this
 unfold maxLen at h1m
 have h2m : Qa.length <= maxLen := by have := h2.len; rwa [List.length_map] at this
 unfold maxLen at h2m
 refine Sq fun K1 hK1 => (Rg ?_)
 refine Ge (Xb rfl rfl rfl) rfl rfl ?_
 rintro _ W2 ⟨rfl, k3, b4, z5⟩
 have l6 := hB.size
 replace h1 := h1.more b4 (Nat.le_refl _)
 replace h2 := h2.more b4 (Nat.le_refl _)
 replace hB := Qe hB b4
 replace hL := LL.more hL z5
 refine Ge (Qs rfl QU rfl) rfl rfl ?_
 rintro _ W7 ⟨rfl, k8, b9, z10⟩
 have l12 := hB.size
 replace h1 := h1.more b9 (Nat.le_refl _)
 replace h2 := h2.more b9 (Nat.le_refl _)
 replace k3 := k3.below b9
 replace hB := Qe hB b9
 replace hL := LL.more hL z10
 refine Pu rfl (Ni (hK1 (Sq fun K13 hK13 => (Sq fun K14 hK14 => (Rg (Va (Qg rfl Qf rfl k3.range rfl) rfl rfl ?_))))))
 refine Ge (QO rfl Tryd.func56 rfl rfl rfl (JQ Qb Qa Qd Qc _ _ W7 _ hL h1 h2)) rfl rfl ?_
 rintro _ W16 ⟨rfl, b15⟩
 replace h1 := h1.below b15
 replace h2 := h2.below b15
 replace k3 := k3.below b15
 replace k8 := k8.below b15
 replace hB := Qe hB b15
 replace hL := LL.below hL b15
 refine Va (XP rfl rfl) rfl rfl (Ni (hK14 ?_))
 refine WC.cond rfl (fun c17 => ?_) (fun c17 => ?_)
 .
  replace c17 := Q7 c17
  refine Sq fun K18 hK18 => (Rg (Va (Qg rfl Qf rfl k3.range rfl) rfl rfl ?_))
  refine WL.do (Qh (cs' := [s1, s2, .int .i64 Qd, .bool Qc]) (vs := [s1, s2, .int .i64 Qd, .bool Qc]) rfl Qj rfl rfl rfl (oC h1.one (oC h2.one (oC rfl (oC rfl Qk)))) k8 rfl (nB rfl) rfl) rfl ?_
  rintro _ W19 ⟨k21, o20⟩
  clear k8
  replace h1 := h1.only o20 (.head _)
  replace h2 := h2.only o20 (.head _)
  replace hB := o20.below hB l12
  refine Pu rfl (Ni (hK18 ?_))
  exact WC.ret fun a_ ha_ => hQ (QM rfl (.agg rfl Qf k21.range rfl) (.tmp rfl) (by rw [Qbw (by first | assumption | (simp_all; done) | omega)]; exact ⟨_, _, rfl, (h1.less (fun x hx => (.tail _ (.tail _ hx)))), (h2.less (fun x hx => (.tail _ (.tail _ hx))))⟩) hB ha_)
 .
  replace c17 := Q4 c17
  have hr := Zz c17; obtain ⟨hne, hsm, hlm, hrt⟩ := hr
  refine WC.skip (hK13 (Sq fun K22 hK22 => (Rg (Va (Qg rfl Qf rfl k3.range rfl) rfl rfl ?_))))
  refine Ge (QO rfl Tryd.func83 rfl rfl rfl (EQ Qb Qa Qd Qc _ _ W16 _ hL h1 h2 hfu)) rfl rfl ?_
  rintro _ W24 ⟨rfl, b23⟩
  replace h1 := h1.below b23
  replace h2 := h2.below b23
  replace k3 := k3.below b23
  replace k8 := k8.below b23
  replace hB := Qe hB b23
  replace hL := LL.below hL b23
  refine Pu rfl (Pu rfl (Pu rfl ?_))
  refine Ge (Qs rfl QU rfl) rfl rfl ?_
  rintro _ W25 ⟨rfl, k26, b27, z28⟩
  have n29 : w.heap.size ≠ W24.heap.size := Nat.ne_of_lt k3.lt
  have n30 : W2.heap.size ≠ W24.heap.size := Nat.ne_of_lt k8.lt
  have l31 := hB.size
  replace h1 := h1.more b27 (Nat.le_refl _)
  replace h2 := h2.more b27 (Nat.le_refl _)
  replace k3 := k3.below b27
  replace k8 := k8.below b27
  replace hB := Qe hB b27
  replace hL := LL.more hL z28
  refine WL.do (Qh (cs' := [s1, s2, .int .i64 ((Z0 Qd Qc).1), .bool ((Z0 Qd Qc).2.1)]) (vs := [s1, s2, .int .i64 ((Z0 Qd Qc).1), .bool ((Z0 Qd Qc).2.1)]) rfl Qj rfl rfl rfl (oC h1.one (oC h2.one (oC rfl (oC rfl Qk)))) k26 rfl (nB rfl) rfl) rfl ?_
  rintro _ W32 ⟨k34, o33⟩
  replace k3 := k3.other o33 n29
  replace k8 := k8.other o33 n30
  clear k26
  replace h1 := h1.only o33 (.head _)
  replace h2 := h2.only o33 (.head _)
  replace hB := o33.below hB l31
  replace hL := LL.only hL o33
  refine Pu rfl (Ni (hK22 (Sq fun K35 hK35 => (Sq fun K36 hK36 => (Rg (Pu rfl (Va (XP rfl rfl) rfl rfl ?_)))))))
  refine Ni (hK36 ?_)
  refine WC.cond rfl (fun c37 => ?_) (fun c37 => ?_)
  .
   replace c37 := Q7 c37
   refine Sq fun K38 hK38 => (Rg (Va (Qg rfl Qf rfl k34.range rfl) rfl rfl ?_))
   refine WL.do (Qh (cs' := [s1, s2, .int .i64 ((Z0 Qd Qc).1), .bool ((Z0 Qd Qc).2.1)]) (vs := [s1, s2, .int .i64 ((Z0 Qd Qc).1), .bool ((Z0 Qd Qc).2.1)]) rfl Qj rfl rfl rfl (oC h1.one (oC h2.one (oC rfl (oC rfl Qk)))) k8 rfl (nB rfl) rfl) rfl ?_
   rintro _ W39 ⟨k41, o40⟩
   clear k8
   replace h1 := h1.only o40 (.tail _ (.head _))
   replace h2 := h2.only o40 (.tail _ (.head _))
   replace hB := o40.below hB l12
   refine Pu rfl (Ni (hK38 ?_))
   exact WC.ret fun a_ ha_ => hQ (QM rfl (.agg rfl Qf k41.range rfl) (.tmp rfl) (by rw [Qau (by first | assumption | (simp_all; done) | omega) (by first | assumption | (simp_all; done) | omega)]; exact ⟨_, _, rfl, (h1.less (fun x hx => (.tail _ (.tail _ (.tail _ hx))))), (h2.less (fun x hx => (.tail _ (.tail _ (.tail _ hx)))))⟩) hB ha_)
  .
   replace c37 := Q4 c37
   refine WC.skip (hK35 (Sq fun K42 hK42 => (Rg ?_)))
   refine Ge (Ga rfl UJ (by decide)) rfl rfl ?_
   rintro u47 W43 ⟨k44, b45, z46⟩
   have n48 : w.heap.size ≠ W32.heap.size := Nat.ne_of_lt k3.lt
   have n49 : W2.heap.size ≠ W32.heap.size := Nat.ne_of_lt k8.lt
   have n50 : W24.heap.size ≠ W32.heap.size := Nat.ne_of_lt k34.lt
   have l51 := hB.size
   replace h1 := h1.more b45 (Nat.le_refl _)
   replace h2 := h2.more b45 (Nat.le_refl _)
   replace k3 := k3.below b45
   replace k8 := k8.below b45
   replace k34 := k34.below b45
   replace hB := Qe hB b45
   replace hL := LL.more hL z46
   refine Va (Qm (o1 := 0) rfl QE rfl rfl) rfl rfl (Va (Qi rfl Q9 rfl (k34.cell (k := 0) rfl)) rfl rfl ?_)
   refine Ge (Vt (rs := []) (news := (Qb.map Qq)) rfl UJ rfl rfl k44 h1 (DU YT Qb) (by simp; unfold maxLen; omega) (by simp; omega)) rfl rfl ?_
   rintro u55 W52 ⟨B56, k53, g54⟩
   have n57 : w.heap.size ≠ B56 := k3.grow_ne g54 n48
   have n58 : W2.heap.size ≠ B56 := k8.grow_ne g54 n49
   have n59 : W24.heap.size ≠ B56 := k34.grow_ne g54 n50
   have l60 := g54.le l51 hB.size
   replace h1 := h1.grow' g54 (.head _)
   replace h2 := h2.grow' g54 (.head _)
   replace k3 := k3.grow g54 n48
   replace k8 := k8.grow g54 n49
   replace k34 := k34.grow g54 n50
   replace hB := g54.below hB l51 hB.size
   replace hL := LL.grow hL g54 k53.lt
   rw [List.nil_append] at k53
   refine Va (Qm (o1 := 0) rfl QE rfl rfl) rfl rfl ?_
   refine WL.do (Qh (cs' := [u55, s2, .int .i64 ((Z0 Qd Qc).1), .bool ((Z0 Qd Qc).2.1)]) (vs := [u55]) rfl JM rfl rfl (Uo k53.one) (oC k53.one Qk) k34 rfl (nB rfl) rfl) rfl ?_
   rintro _ W61 ⟨k63, o62⟩
   replace k3 := k3.other o62 n29
   replace k8 := k8.other o62 n30
   replace k53 := k53.other o62 n59.symm
   clear k34
   replace h1 := h1.only o62 (.tail _ (.tail _ (.head _)))
   replace h2 := h2.only o62 (.tail _ (.tail _ (.head _)))
   replace hB := o62.below hB l31
   replace hL := LL.only hL o62
   refine Ni (hK42 (Sq fun K64 hK64 => (Sq fun K65 hK65 => (Rg (Pu rfl (Ni (hK65 ?_)))))))
   refine WC.block ?_
   refine WC.loop2 (fun (i : Nat) (cur : List (List Int)) => [(1, .pointer (some ⟨w.heap.size, 0, none⟩)), (2, .pointer (some ⟨W2.heap.size, 0, none⟩)), (4, .pointer (some ⟨W24.heap.size, 0, none⟩)), (6, .int .i64 (i : Int))]) (fun (i : Nat) (cur : List (List Int)) W => i <= Qa.length /\ XT (fun _ _ z => z) Qa Qb 0 = XT (fun _ _ z => z) (Qa.drop i) cur i /\ cur.length = Qb.length /\ Below w.heap.size w W /\ LL (B56 :: W32.heap.size :: W24.heap.size :: W2.heap.size :: w.heap.size :: L) W /\ QC 128 (B56 :: W32.heap.size :: W24.heap.size :: W2.heap.size :: w.heap.size :: L) W s1 (Qb.map Qq) /\ QC 129 (B56 :: W32.heap.size :: W24.heap.size :: W2.heap.size :: w.heap.size :: L) W s2 (Qa.map QD) /\ Xe W w.heap.size [s1, s2, .int .i64 Qd, .bool Qc] /\ Xe W W2.heap.size [.slice none 0 0, .slice none 0 0, .int .i64 0, .bool false] /\ Xe W W24.heap.size [u55, s2, .int .i64 ((Z0 Qd Qc).1), .bool ((Z0 Qd Qc).2.1)] /\ Y2 128 W u55 (cur.map Qq) B56) (fun (i : Nat) (cur : List (List Int)) => Qa.length - i) 0 Qb (by repeat first | exact trivial | refine aR ?_ | refine aI (by omega) ?_) ⟨Nat.zero_le _, rfl, rfl, hB, hL, h1, h2, k3, k8, k63, k53⟩ ?_
   clear h1 h2 k3 k8 k63 k53 hB hL
   rintro K66 i cur W67 ⟨hi, hv, hc, hB, hL, h1, h2, k3, k8, k63, k53⟩ hK66
   refine Sq fun K68 hK68 => (Sq fun K69 hK69 => (Rg (Pu rfl (Va (Qm (o1 := 1) rfl QG rfl rfl) rfl rfl (Va (Qi rfl Xg rfl (k63.cell (k := 1) rfl)) rfl rfl (Va (QY rfl QZ rfl h2) rfl rfl (Va (Xh rfl rfl rfl) rfl rfl ?_)))))))
   refine Ni (hK69 ?_)
   refine WC.cond rfl (fun c70 => ?_) (fun c70 => ?_)
   .
    replace c70 := dT c70
    refine WC.skip (hK68 (Sq fun K71 hK71 => (WC.block ?_)))
    obtain ⟨r72, e73⟩ : ∃ x, Qa[i]? = some x := ⟨_, List.getElem?_eq_getElem (by omega)⟩
    have Lr72 := JT h2 e73
    have Rr72 := hrt r72 (List.mem_of_getElem? e73)
    refine dM 14 [(some 31, .is (.pointer (some ⟨W24.heap.size, 0, none⟩))), (some 32, .is (u55)), (some 33, .is (.pointer (some ⟨W24.heap.size, 1, none⟩))), (some 34, .is (s2)), (some 35, .is (.int .i64 (i : Int))), (some 36, .by fun u W => Jr (B56 :: W32.heap.size :: W24.heap.size :: W2.heap.size :: w.heap.size :: L) W u (QD r72)), (some 37, .by fun u W => Jr (B56 :: W32.heap.size :: W24.heap.size :: W2.heap.size :: w.heap.size :: L) W u [.int .i64 r72.1]), (some 38, .is (.int .i64 r72.1)), (some 39, .is (.pointer (some ⟨W24.heap.size, 1, none⟩))), (some 40, .is (s2)), (some 41, .is (.int .i64 (i : Int))), (some 42, .by fun u W => Jr (B56 :: W32.heap.size :: W24.heap.size :: W2.heap.size :: w.heap.size :: L) W u (QD r72)), (some 43, .by fun u W => Jr (B56 :: W32.heap.size :: W24.heap.size :: W2.heap.size :: w.heap.size :: L) W u (Qq r72.2)), (some 44, .is (.agg (Qq r72.2).toArray))] [[], [0], [], [2], [], [3, 4], [5], [6], [], [8], [], [9, 10], [11], [12]] ⟨fun _ _ _ hb h => h.below hb, fun _ _ _ hb h => h.below hb, fun _ _ _ hb h => h.below hb, fun _ _ _ hb h => h.below hb, trivial⟩ ?_ ?_
    .
     refine Dc (fun Wd hd => ?_) ?_
     .
      exact Dd (Qm (o1 := 0) rfl QE rfl rfl) rfl
     refine Dc (fun Wd hd => ?_) ?_
     .
      have k63 := k63.below hd
      exact Dd (Qi rfl Q9 rfl (k63.cell (k := 0) rfl)) rfl
     refine Dc (fun Wd hd => ?_) ?_
     .
      exact Dd (Qm (o1 := 1) rfl QG rfl rfl) rfl
     refine Dc (fun Wd hd => ?_) ?_
     .
      have k63 := k63.below hd
      exact Dd (Qi rfl Xg rfl (k63.cell (k := 1) rfl)) rfl
     refine Dc (fun Wd hd => ?_) ?_
     .
      exact Dd (Qt rfl rfl) rfl
     refine Dc (fun Wd hd => ?_) ?_
     .
      have h2 := h2.below hd
      exact (XR i rfl QZ rfl rfl h2 (by omega) (XL e73)).mono (fun v W' h => ⟨by rw [<- h.1]; exact Below.refl _ _, by rw [<- h.1]; exact h.2⟩)
     refine Dc (fun Wd hd => ?_) ?_
     .
      intro u10_5 p10_5
      exact (VU 1 rfl Zw rfl p10_5 (cs' := [.int .i64 r72.1]) (by simp [QD, List.take_of_length_le, Qo, Lr72]) (Nat.succ_pos _)).mono (fun v W' h => ⟨by rw [<- h.1]; exact Below.refl _ _, by rw [<- h.1]; exact h.2⟩)
     refine Dc (fun Wd hd => ?_) ?_
     .
      intro u10_6 p10_6
      exact Dd (ZR rfl Qu rfl p10_6) rfl
     refine Dc (fun Wd hd => ?_) ?_
     .
      exact Dd (Qm (o1 := 1) rfl QG rfl rfl) rfl
     refine Dc (fun Wd hd => ?_) ?_
     .
      have k63 := k63.below hd
      exact Dd (Qi rfl Xg rfl (k63.cell (k := 1) rfl)) rfl
     refine Dc (fun Wd hd => ?_) ?_
     .
      exact Dd (Qt rfl rfl) rfl
     refine Dc (fun Wd hd => ?_) ?_
     .
      have h2 := h2.below hd
      exact (XR i rfl QZ rfl rfl h2 (by omega) (XL e73)).mono (fun v W' h => ⟨by rw [<- h.1]; exact Below.refl _ _, by rw [<- h.1]; exact h.2⟩)
     refine Dc (fun Wd hd => ?_) ?_
     .
      intro u10_11 p10_11
      exact (VU 128 rfl Y8 rfl p10_11 (cs' := (Qq r72.2)) (by simp [QD, List.take_of_length_le, Qo, Lr72]) (by simp [QD, Qo, Lr72])).mono (fun v W' h => ⟨by rw [<- h.1]; exact Below.refl _ _, by rw [<- h.1]; exact h.2⟩)
     refine Dc (fun Wd hd => ?_) ?_
     .
      intro u10_12 p10_12
      exact Dd (X6 rfl QA rfl p10_12 (by rw [Qo]; exact Lr72)) rfl
     exact trivial
    .
     intro W74 b75
     intro u10_5 p10_5
     intro u10_6 p10_6
     intro u10_11 p10_11
     intro u10_12 p10_12
     replace h1 := h1.below b75
     replace h2 := h2.below b75
     replace k3 := k3.below b75
     replace k8 := k8.below b75
     replace k63 := k63.below b75
     replace k53 := k53.below b75
     replace hB := Qe hB b75
     replace hL := LL.below hL b75
     refine Va (Us r72.1.toNat rfl QX rfl rfl k53 (by omega) (by rw [List.length_map]; omega) rfl) rfl rfl ?_
     refine WL.do (HF (r := (Qq r72.2)) rfl Q2 rfl rfl rfl (YT r72.2) k53 rfl (by rw [List.length_map]; omega) (by rw [Qo]; exact Lr72)) rfl ?_
     rintro _ W76 ⟨k78, o77⟩
     replace k3 := k3.other o77 n57
     replace k8 := k8.other o77 n58
     replace k63 := k63.other o77 n59
     clear k53
     replace h1 := h1.only o77 (.head _)
     replace h2 := h2.only o77 (.head _)
     replace hB := o77.below hB l60
     replace hL := LL.only hL o77
     rw [<- List.map_set] at k78
     refine Ni (hK71 (Rg (Pu rfl (Va (QR (r := (i : Int) + 1) rfl rfl rfl (Qn (by omega))) rfl rfl (Pu rfl (Ni ?_))))))
     exact hK66 (i + 1) (cur.set r72.1.toNat r72.2) ⟨(by omega), (by rw [hv]; exact H7 e73), (by rw [List.length_set]; exact hc), hB, hL, h1, h2, k3, k8, k63, k78⟩ (by omega) (by repeat first | exact trivial | refine aR ?_ | refine aI (by omega) ?_)
   .
    replace c70 := dF c70
    refine WC.exit ?_
    refine hK64 (Sq fun K79 hK79 => (Rg (Va (Qm (o1 := 1) rfl QG rfl rfl) rfl rfl ?_)))
    refine WL.do (Qh (cs' := [u55, .slice none 0 0, .int .i64 ((Z0 Qd Qc).1), .bool ((Z0 Qd Qc).2.1)]) (vs := [.slice none 0 0]) rfl YK rfl rfl rfl (oC rfl Qk) k63 rfl (nB rfl) rfl) rfl ?_
    rintro _ W80 ⟨k82, o81⟩
    replace k8 := k8.other o81 n30
    replace k53 := k53.other o81 n59.symm
    clear k63
    replace hB := o81.below hB l31
    refine Ni (hK79 (Sq fun K83 hK83 => (Rg (Va (Qg rfl Qf rfl k82.range rfl) rfl rfl ?_))))
    refine WL.do (Qh (cs' := [u55, .slice none 0 0, .int .i64 ((Z0 Qd Qc).1), .bool ((Z0 Qd Qc).2.1)]) (vs := [u55, .slice none 0 0, .int .i64 ((Z0 Qd Qc).1), .bool ((Z0 Qd Qc).2.1)]) rfl Qj rfl rfl rfl (oC k53.one (oC rfl (oC rfl (oC rfl Qk)))) k8 rfl (nB rfl) rfl) rfl ?_
    rintro _ W84 ⟨k86, o85⟩
    replace k53 := k53.other o85 n58.symm
    clear k8
    replace hB := o85.below hB l12
    refine Pu rfl (Ni (hK83 ?_))
    exact WC.ret fun a_ ha_ => hQ (QM rfl (.agg rfl Qf k86.range rfl) (.tmp rfl) (by rw [Qat (by first | assumption | (simp_all; done) | omega) (by first | assumption | (simp_all; done) | omega), hv, Gy (by omega)]; exact ⟨_, _, rfl, (k53.notin hL0 l60), (QC.nil (by decide))⟩) hB ha_)

theorem U2 {a : List Int} {n m k : Nat} {x : Int} (hk : a.length = k) (hn : n = m + 1) : (Qq (a ++ zr n)).take k ++ ([Value.int .u8 x] ++ (Qq (a ++ zr n)).drop (k + 1)) = Qq ((a ++ [x]) ++ zr m) := by subst hn; exact ET hk
theorem Qcj {n : Nat} {T st : List Int} {i : Nat} (hT : T.length = n) (hs : st.length = n) (hi : i < n) : (T.take i ++ st.drop i).set i (QV T i) = T.take (i + 1) ++ st.drop (i + 1) := by
 have h1 : (T.take i).length = i := by rw [List.length_take]; omega
 rw [List.set_append, if_neg (by omega), h1, Nat.sub_self]
 rw [show st.drop i = st[i] :: st.drop (i + 1) from List.drop_eq_getElem_cons (by omega)]
 rw [List.set_cons_zero, YX T i (by omega), List.append_assoc]
 rfl
theorem En {n : Nat} {T st : List Int} {i : Nat} (hT : T.length = n) (hs : st.length = n) (hi : i <= n) : (T.take i ++ st.drop i).length = n := by
 rw [List.length_append, List.length_take, List.length_drop, hT, hs]
 omega
theorem GI : (List.replicate 32 (0 : Int)).length = 32 := List.length_replicate ..
theorem G7 : (Value.agg (Array.replicate 32 (Value.int .u8 0))).cells.toList = Qq (List.replicate 32 0) := by simp [Value.cells, Qq]
set_option maxHeartbeats 1000000 in
theorem F2 (D : List Int) (sv : Value) (w : World) (L : List Nat) (hL : LL L w) (h1 : QC 1 L w sv (D.map e8)) (hT : Vo L w)  (hDm : D.length <= 10000) (hDb : ZD D) : CV Tryd.prog 84 [sv] w fun v W => v = .agg (Qq (XD D)).toArray := by
 refine QL (N := 19) (f := [(0, sv)]) Tryd.func84 rfl rfl rfl rfl fun Q hQ hE => ?_
 have hB := Below.refl w.heap.size w
 have h1m : D.length <= maxLen := by have := h1.len; rwa [List.length_map] at this
 unfold maxLen at h1m
 refine Sq fun K1 hK1 => (Rg ?_)
 refine Ge (Qs (cs := Qq (List.replicate 32 0)) rfl VO G7) rfl rfl ?_
 rintro _ W2 ⟨rfl, k3, b4, z5⟩
 have l6 := hB.size
 replace h1 := h1.more b4 (Nat.le_refl _)
 replace hT := hT.more b4 (Nat.le_refl _)
 replace hB := Qe hB b4
 replace hL := LL.more hL z5
 refine Ni (hK1 (Sq fun K7 hK7 => (Rg ?_)))
 refine Ge (Qs (cs := Qq (List.replicate 32 0)) rfl VO G7) rfl rfl ?_
 rintro _ W8 ⟨rfl, k9, b10, z11⟩
 have n12 : w.heap.size ≠ W2.heap.size := Nat.ne_of_lt k3.lt
 have l13 := hB.size
 replace h1 := h1.more b10 (Nat.le_refl _)
 replace hT := hT.more b10 (Nat.le_refl _)
 replace k3 := k3.below b10
 replace hB := Qe hB b10
 replace hL := LL.more hL z11
 refine Ni (hK7 (Sq fun K14 hK14 => (Rg (Pu rfl ?_))))
 refine Ge (QO rfl Tryd.func94 rfl rfl rfl (EY D _ W8 _ hL h1 hT hDm hDb)) rfl rfl ?_
 rintro u17 W20 ⟨j18, b19⟩
 replace h1 := h1.below b19
 replace hT := hT.below b19
 replace k3 := k3.below b19
 replace k9 := k9.below b19
 replace hB := Qe hB b19
 replace hL := LL.below hL b19
 refine Pu rfl (Ni (hK14 (Sq fun K21 hK21 => (Sq fun K22 hK22 => (Rg (Pu rfl (Ni ?_)))))))
 refine hK22 (WC.block ?_)
 have hsm : (XD D).length = 32 := by rw [Gw]; exact Gv _
 have hv1 : QC 1 (W2.heap.size :: w.heap.size :: L) W20 u17 ((XD D).map e8) := j18
 replace k9 : Xe W20 W2.heap.size (Qq ((XD D).take 0 ++ (List.replicate 32 (0 : Int)).drop 0)) := k9
 refine WC.loop (fun (i : Nat) => [(2, .pointer (some ⟨w.heap.size, 0, none⟩)), (3, .pointer (some ⟨W2.heap.size, 0, none⟩)), (4, u17), (5, .int .i64 (i : Int))]) (fun (i : Nat) W => i <= 32 /\ Below w.heap.size w W /\ LL (W2.heap.size :: w.heap.size :: L) W /\ QC 1 (W2.heap.size :: w.heap.size :: L) W sv (D.map e8) /\ Vo (W2.heap.size :: w.heap.size :: L) W /\ QC 1 (W2.heap.size :: w.heap.size :: L) W u17 ((XD D).map e8) /\ Xe W w.heap.size (Qq (List.replicate 32 0)) /\ Xe W W2.heap.size (Qq ((XD D).take i ++ (List.replicate 32 (0 : Int)).drop i))) (fun (i : Nat) => 32 - i) 0 (by repeat first | exact trivial | refine aR ?_ | refine aI (by omega) ?_) ⟨(by decide), hB, hL, h1, hT, j18, k3, k9⟩ ?_
 clear h1 hT j18 k3 k9 hB hL
 rintro K23 i W24 ⟨hi, hB, hL, h1, hT, j18, k3, k9⟩ hK23
 refine Sq fun K25 hK25 => (Sq fun K26 hK26 => (Rg (Pu rfl (Va (Xh rfl rfl rfl) rfl rfl (Ni (hK26 ?_))))))
 refine WC.cond rfl (fun c27 => ?_) (fun c27 => ?_)
 .
  replace c27 := dT c27
  refine WC.skip (hK25 (Sq fun K28 hK28 => (WC.block ?_)))
  have esm : (XD D)[i]? = some (QV (XD D) i) := ED (by omega)
  refine Rg (Pu rfl (Pu rfl (Pu rfl ?_)))
  refine Ge (XR i rfl QF rfl rfl j18 (by omega) (Qah esm)) rfl rfl ?_
  rintro u29 _ ⟨rfl, p30⟩
  refine Va (ZR rfl XX rfl p30) rfl rfl (Va (QS (o1 := i) rfl Tryd.underlying132 Qx rfl rfl (by omega) (by first | (simp; done) | omega)) rfl rfl ?_)
  refine WL.do (Qh (cs' := Qq (((XD D).take i ++ (List.replicate 32 (0 : Int)).drop i).set i (QV (XD D) i))) (vs := [.int .u8 (QV (XD D) i)]) rfl Qx rfl rfl rfl (oC rfl Qk) k9 rfl (by rw [Qo, show ((XD D).take i ++ (List.replicate 32 (0 : Int)).drop i).length = 32 from (En hsm GI hi)]; exact (by omega)) (Qfr (by rw [show ((XD D).take i ++ (List.replicate 32 (0 : Int)).drop i).length = 32 from (En hsm GI hi)]; exact (by omega)))) rfl ?_
  rintro _ W31 ⟨k33, o32⟩
  replace k3 := k3.other o32 n12
  clear k9
  replace h1 := h1.only o32 (.head _)
  replace hT := hT.only o32 (.head _)
  replace j18 := j18.only o32 (.head _)
  replace hB := o32.below hB l13
  replace hL := LL.only hL o32
  refine Ni (hK28 (Rg (Pu rfl (Va (QR (r := (i : Int) + 1) rfl rfl rfl (Qn (by omega))) rfl rfl (Pu rfl (Ni ?_))))))
  rw [Qcj hsm GI (by omega)] at k33
  exact hK23 (i + 1) ⟨(by omega), hB, hL, h1, hT, j18, k3, k33⟩ (by omega) (by repeat first | exact trivial | refine aR ?_ | refine aI (by omega) ?_)
 .
  replace c27 := dF c27
  refine WC.exit ?_
  refine hK21 (Sq fun K34 hK34 => ?_)
  have hie : i = 32 := by omega
  subst hie
  replace k9 : Xe W24 W2.heap.size (Qq (XD D)) := by have e : (XD D).take 32 ++ (List.replicate 32 (0 : Int)).drop 32 = (XD D) := (by rw [List.take_of_length_le (by rw [hsm]; decide), List.drop_eq_nil_of_le (by rw [GI]; decide), List.append_nil]); rw [e] at k9; exact k9
  refine Rg (Va (Qg rfl Jl rfl k9.range (by rw [Qo]; exact hsm)) rfl rfl ?_)
  refine WL.do (QB (vs := (Qq (XD D))) rfl VB rfl rfl rfl (YT (XD D)) k3 (by rw [Qo]; exact hsm) (by rw [Qo]; exact GI)) rfl ?_
  rintro _ W35 ⟨k37, o36⟩
  clear k3
  replace hB := o36.below hB l6
  refine Ni (hK34 ?_)
  exact WC.ret fun a_ ha_ => hQ (QI rfl (.agg rfl Jl k37.range (by rw [Qo]; exact hsm)) rfl hB ha_)

set_option maxHeartbeats 1000000 in
theorem Dw (p : Pg) (dv : Value) (w : World) (L : List Nat) (hL : LL L w) (h1 : QC 1 L w dv (Vq p.dat))  (hby : ZX p.dat) (hdl : p.dat.length <= 100) (hmk : 0 <= p.mks /\ p.mks <= 255) (hR : UD w) : CV Tryd.prog 67 [.agg #[.int .i64 p.gen, .int .i64 p.idx, .int .u8 p.mks, dv]] w fun v W => v = .agg (Qq (Xj p)).toArray := by
 have hmk2 : p.mks % 256 = p.mks := by omega
 refine QL (N := 72) (f := [(0, .agg #[.int .i64 p.gen, .int .i64 p.idx, .int .u8 p.mks, dv])]) Tryd.func67 rfl rfl rfl rfl fun Q hQ hE => ?_
 have hB := Below.refl w.heap.size w
 refine Sq fun K1 hK1 => (Rg ?_)
 refine Ge (Xb rfl rfl rfl) rfl rfl ?_
 rintro _ W2 ⟨rfl, k3, b4, z5⟩
 have l6 := hB.size
 replace h1 := h1.more b4 (Nat.le_refl _)
 replace hB := Qe hB b4
 replace hL := LL.more hL z5
 refine Ge (Qs (cs := Qq z0) rfl Zx Ye) rfl rfl ?_
 rintro _ W7 ⟨rfl, k8, b9, z10⟩
 have l12 := hB.size
 replace h1 := h1.more b9 (Nat.le_refl _)
 replace k3 := k3.below b9
 replace hB := Qe hB b9
 replace hL := LL.more hL z10
 refine Ni (hK1 (Sq fun K13 hK13 => (Rg ?_)))
 refine Ge (Qs (cs := Qq z0) rfl Zx Ye) rfl rfl ?_
 rintro _ W14 ⟨rfl, k15, b16, z17⟩
 have n18 : w.heap.size ≠ W7.heap.size := Nat.ne_of_lt k3.lt
 have n19 : W2.heap.size ≠ W7.heap.size := Nat.ne_of_lt k8.lt
 have l20 := hB.size
 replace h1 := h1.more b16 (Nat.le_refl _)
 replace k3 := k3.below b16
 replace k8 := k8.below b16
 replace hB := Qe hB b16
 replace hL := LL.more hL z17
 refine Ni (hK13 (Sq fun K21 hK21 => (Sq fun K22 hK22 => ?_)))
 replace k15 : Xe W14 W7.heap.size (Qq (ZA 0 p.gen ++ zr (128 - 0))) := k15
 refine Rg (Pu rfl (Ni (hK22 (WC.block ?_))))
 refine WC.loop (fun (i : Nat) => [(1, .pointer (some ⟨w.heap.size, 0, none⟩)), (2, .pointer (some ⟨W2.heap.size, 0, none⟩)), (3, .pointer (some ⟨W7.heap.size, 0, none⟩)), (4, .int .i64 (i : Int))]) (fun (i : Nat) W => i <= 8 /\ Below w.heap.size w W /\ LL (W7.heap.size :: W2.heap.size :: w.heap.size :: L) W /\ QC 1 (W7.heap.size :: W2.heap.size :: w.heap.size :: L) W dv (Vq p.dat) /\ Xe W w.heap.size [.int .i64 p.gen, .int .i64 p.idx, .int .u8 p.mks, dv] /\ Xe W W2.heap.size (Qq z0) /\ Xe W W7.heap.size (Qq (ZA i p.gen ++ zr (128 - i)))) (fun (i : Nat) => 8 - i) 0 (by repeat first | exact trivial | refine aR ?_ | refine aI (by omega) ?_) ⟨(by decide), hB, hL, h1, k3, k8, k15⟩ ?_
 clear h1 k3 k8 k15 hB hL
 rintro K23 i W24 ⟨hi, hB, hL, h1, k3, k8, k15⟩ hK23
 refine Sq fun K25 hK25 => (Sq fun K26 hK26 => (Rg (Pu rfl (Va (Xh rfl rfl rfl) rfl rfl (Ni (hK26 ?_))))))
 refine WC.cond rfl (fun c27 => ?_) (fun c27 => ?_)
 .
  replace c27 := dT c27
  refine WC.skip (hK25 (Sq fun K28 hK28 => (WC.block (Rg (Pu rfl (Va (Qm (o1 := 0) rfl Z4 rfl rfl) rfl rfl (Va (Qi rfl Qu rfl (k3.cell (k := 0) rfl)) rfl rfl ?_)))))))
  refine Pu rfl (Va (VJ (r := 8 * (i : Int)) rfl rfl rfl (by rw [Qn (by omega)])) rfl rfl (Va (XM (r := 8 * (i : Int)) rfl Tryd.underlying3 Tryd.underlying105 rfl (Ug (by omega))) rfl rfl (Va (Jd (r := p.gen / 2 ^ (8 * i)) rfl rfl rfl (by omega) (by show _ <= (64 : Int); omega) (by rw [show (8 * (i : Int)).toNat = 8 * i by omega])) rfl rfl (Va (XM (r := p.gen / 2 ^ (8 * i) % 256) rfl Tryd.underlying3 Tryd.underlying5 rfl (Ji _)) rfl rfl (Va (QS (o1 := i) rfl Tryd.underlying75 Qx rfl rfl (by omega) (by omega)) rfl rfl ?_)))))
  refine WL.do (Qh (cs' := Qq ((ZA i p.gen ++ [p.gen / 2 ^ (8 * i) % 256]) ++ zr (127 - i))) (vs := [.int .u8 (p.gen / 2 ^ (8 * i) % 256)]) rfl Qx rfl rfl rfl (oC rfl Qk) k15 rfl (by rw [Qo, List.length_append, List.length_replicate, (Xm _ _)]; omega) (U2 (Xm _ _) (by omega))) rfl ?_
  rintro _ W29 ⟨k31, o30⟩
  replace k3 := k3.other o30 n18
  replace k8 := k8.other o30 n19
  clear k15
  replace h1 := h1.only o30 (.head _)
  replace hB := o30.below hB l20
  replace hL := LL.only hL o30
  refine Ni (hK28 (Rg (Pu rfl (Va (QR (r := (i : Int) + 1) rfl rfl rfl (Qn (by omega))) rfl rfl (Pu rfl (Ni ?_))))))
  replace k31 : Xe W29 W7.heap.size (Qq (ZA (i + 1) p.gen ++ zr (128 - (i + 1)))) := by rw [KZ i, show 128 - (i + 1) = 127 - i by omega]; exact k31
  exact hK23 (i + 1) ⟨(by omega), hB, hL, h1, k3, k8, k31⟩ (by omega) (by repeat first | exact trivial | refine aR ?_ | refine aI (by omega) ?_)
 .
  replace c27 := dF c27
  refine WC.exit ?_
  refine hK21 (Sq fun K32 hK32 => (Sq fun K33 hK33 => ?_))
  replace k15 : Xe W24 W7.heap.size (Qq ((ZA 8 p.gen ++ ZA 0 p.idx) ++ zr (120 - 0))) := by obtain rfl : i = 8 := (by omega); rw [show ZA 0 p.idx = [] from rfl, List.append_nil]; exact k15
  refine Rg (Pu rfl (Ni (hK33 (WC.block ?_))))
  refine WC.loop (fun (j : Nat) => [(1, .pointer (some ⟨w.heap.size, 0, none⟩)), (2, .pointer (some ⟨W2.heap.size, 0, none⟩)), (3, .pointer (some ⟨W7.heap.size, 0, none⟩)), (5, .int .i64 (j : Int))]) (fun (j : Nat) W => j <= 4 /\ Below w.heap.size w W /\ LL (W7.heap.size :: W2.heap.size :: w.heap.size :: L) W /\ QC 1 (W7.heap.size :: W2.heap.size :: w.heap.size :: L) W dv (Vq p.dat) /\ Xe W w.heap.size [.int .i64 p.gen, .int .i64 p.idx, .int .u8 p.mks, dv] /\ Xe W W2.heap.size (Qq z0) /\ Xe W W7.heap.size (Qq ((ZA 8 p.gen ++ ZA j p.idx) ++ zr (120 - j)))) (fun (j : Nat) => 4 - j) 0 (by repeat first | exact trivial | refine aR ?_ | refine aI (by omega) ?_) ⟨(by decide), hB, hL, h1, k3, k8, k15⟩ ?_
  clear h1 k3 k8 k15 hB hL
  rintro K34 j W35 ⟨hj, hB, hL, h1, k3, k8, k15⟩ hK34
  refine Sq fun K36 hK36 => (Sq fun K37 hK37 => (Rg (Pu rfl (Va (Xh rfl rfl rfl) rfl rfl (Ni (hK37 ?_))))))
  refine WC.cond rfl (fun c38 => ?_) (fun c38 => ?_)
  .
   replace c38 := dT c38
   refine WC.skip (hK36 (Sq fun K39 hK39 => (WC.block (Rg (Pu rfl (Va (QR (r := 8 + (j : Int)) rfl rfl rfl (Qn (by omega))) rfl rfl (Va (Qm (o1 := 1) rfl Y6 rfl rfl) rfl rfl ?_)))))))
   refine Va (Qi rfl Qu rfl (k3.cell (k := 1) rfl)) rfl rfl (Pu rfl (Va (VJ (r := 8 * (j : Int)) rfl rfl rfl (by rw [Qn (by omega)])) rfl rfl (Va (XM (r := 8 * (j : Int)) rfl Tryd.underlying3 Tryd.underlying105 rfl (Ug (by omega))) rfl rfl (Va (Jd (r := p.idx / 2 ^ (8 * j)) rfl rfl rfl (by omega) (by show _ <= (64 : Int); omega) (by rw [show (8 * (j : Int)).toNat = 8 * j by omega])) rfl rfl (Va (XM (r := p.idx / 2 ^ (8 * j) % 256) rfl Tryd.underlying3 Tryd.underlying5 rfl (Ji _)) rfl rfl (Va (QS (o1 := 8 + j) rfl Tryd.underlying75 Qx rfl rfl (by omega) (by omega)) rfl rfl ?_))))))
   refine WL.do (Qh (cs' := Qq (((ZA 8 p.gen ++ ZA j p.idx) ++ [p.idx / 2 ^ (8 * j) % 256]) ++ zr (119 - j))) (vs := [.int .u8 (p.idx / 2 ^ (8 * j) % 256)]) rfl Qx rfl rfl rfl (oC rfl Qk) k15 rfl (by rw [Qo, List.length_append, List.length_replicate, (show (ZA 8 p.gen ++ ZA j p.idx).length = 8 + j by rw [List.length_append, Xm, Xm])]; omega) (U2 (show (ZA 8 p.gen ++ ZA j p.idx).length = 8 + j by rw [List.length_append, Xm, Xm]) (by omega))) rfl ?_
   rintro _ W40 ⟨k42, o41⟩
   replace k3 := k3.other o41 n18
   replace k8 := k8.other o41 n19
   clear k15
   replace h1 := h1.only o41 (.head _)
   replace hB := o41.below hB l20
   replace hL := LL.only hL o41
   refine Ni (hK39 (Rg (Pu rfl (Va (QR (r := (j : Int) + 1) rfl rfl rfl (Qn (by omega))) rfl rfl (Pu rfl (Ni ?_))))))
   replace k42 : Xe W40 W7.heap.size (Qq ((ZA 8 p.gen ++ ZA (j + 1) p.idx) ++ zr (120 - (j + 1)))) := by rw [KZ j, <- List.append_assoc, show 120 - (j + 1) = 119 - j by omega]; exact k42
   exact hK34 (j + 1) ⟨(by omega), hB, hL, h1, k3, k8, k42⟩ (by omega) (by repeat first | exact trivial | refine aR ?_ | refine aI (by omega) ?_)
  .
   replace c38 := dF c38
   refine WC.exit ?_
   refine hK32 (Sq fun K43 hK43 => ?_)
   replace k15 : Xe W35 W7.heap.size (Qq ((ZA 8 p.gen ++ ZA 4 p.idx) ++ zr (115 + 1))) := by obtain rfl : j = 4 := (by omega); exact k15
   refine WC.drawC 8 [(7, W7.heap.size, Qq ((ZA 8 p.gen ++ ZA 4 p.idx) ++ zr (115 + 1)), fun cs_ W_ => cs_ = Qq (((ZA 8 p.gen ++ ZA 4 p.idx) ++ [(p.dat.length : Int) % 256]) ++ zr 115))] [(some 36, .is (.pointer (some ⟨w.heap.size, 3, none⟩))), (some 37, .is (dv)), (some 38, .is (.int .i64 (p.dat.length : Int))), (some 39, .is (.int .u8 ((p.dat.length : Int) % 256))), (some 40, .is (.pointer (some ⟨w.heap.size, 2, none⟩))), (some 41, .is (.int .u8 p.mks)), (some 42, .is (.pointer (some ⟨W7.heap.size, 12, none⟩))), (none, .by fun _ _ => True)] [[], [0], [1], [2], [], [4], [0, 1, 2, 3], [6, 3, 0, 1, 2, 3]] ⟨fun _ _ _ _ h => h, trivial⟩ (mA ⟨fun _ _ _ _ h => h, trivial⟩) ⟨fun x hx => (by cases hx), trivial⟩ (mA ⟨fun _ _ _ _ h => h, fun _ _ _ _ _ _ _ h => h⟩) (mA k15) ?_ ?_
   .
    refine Ql.cons rfl (fun Wd hd hbs_ => ?_) ?_
    .
     exact Dd (Qm (o1 := 3) rfl Y5 rfl rfl) rfl
    refine Ql.cons rfl (fun Wd hd hbs_ => ?_) ?_
    .
     have k3 := k3.chgM hd (by simp only [List.map_cons, List.map_nil, List.mem_cons, List.not_mem_nil, or_false, not_or]; exact n18)
     exact Dd (Qi rfl Zj rfl (k3.cell (k := 3) rfl)) rfl
    refine Ql.cons rfl (fun Wd hd hbs_ => ?_) ?_
    .
     have h1 := h1.chgM hd (mA (.head _))
     exact Dd (QY rfl QF rfl h1) rfl
    refine Ql.cons rfl (fun Wd hd hbs_ => ?_) ?_
    .
     exact Dd (XM (r := (p.dat.length : Int) % 256) rfl Tryd.underlying3 Tryd.underlying5 rfl (Ji _)) rfl
    refine Ql.cons rfl (fun Wd hd hbs_ => ?_) ?_
    .
     exact Dd (Qm (o1 := 2) rfl Zs rfl rfl) rfl
    refine Ql.cons rfl (fun Wd hd hbs_ => ?_) ?_
    .
     have k3 := k3.chgM hd (by simp only [List.map_cons, List.map_nil, List.mem_cons, List.not_mem_nil, or_false, not_or]; exact n18)
     exact Dd (Qi rfl XX rfl (k3.cell (k := 2) rfl)) rfl
    refine Ql.cons rfl (fun Wd hd hbs_ => ?_) ?_
    .
     exact Dd (QS (o1 := 12) rfl Tryd.underlying75 Qx rfl rfl (by decide) rfl) rfl
    refine Ql.hit rfl (fun Wd hd hb_ => ?_) ?_
    .
     exact DR.mono (Qh (cs' := Qq (((ZA 8 p.gen ++ ZA 4 p.idx) ++ [(p.dat.length : Int) % 256]) ++ zr 115)) (vs := [.int .u8 ((p.dat.length : Int) % 256)]) rfl Qx rfl rfl rfl (oC rfl Qk) hb_ rfl (by rw [Qo, List.length_append, List.length_replicate, (show (ZA 8 p.gen ++ ZA 4 p.idx).length = 12 by rw [List.length_append, Xm, Xm])]; decide) (U2 (show (ZA 8 p.gen ++ ZA 4 p.idx).length = 12 by rw [List.length_append, Xm, Xm]) rfl)) (fun _ W_ h => ⟨h.2, XC.is h.1, trivial⟩)
    exact trivial
   .
    intro W44 hd hq_
    replace h1 := h1.chgM hd (mA (.head _))
    replace k3 := k3.chgM hd (by simp only [List.map_cons, List.map_nil, List.mem_cons, List.not_mem_nil, or_false, not_or]; exact n18)
    replace k8 := k8.chgM hd (by simp only [List.map_cons, List.map_nil, List.mem_cons, List.not_mem_nil, or_false, not_or]; exact n19)
    have k45 := hq_ _ (.head _)
    replace k45 := XC.blk k45
    replace hB := hd.toBelow hB (mA l20)
    replace hL := hL.chgM hd
    intro _ _
    refine Va (QS (o1 := 13) rfl Tryd.underlying75 Qx rfl rfl (by decide) rfl) rfl rfl ?_
    refine WL.do (Qh (cs' := Qq ((((ZA 8 p.gen ++ ZA 4 p.idx) ++ [(p.dat.length : Int) % 256]) ++ [p.mks]) ++ zr 114)) (vs := [.int .u8 p.mks]) rfl Qx rfl rfl rfl (oC rfl Qk) k45 rfl (by rw [Qo, List.length_append, List.length_replicate, (show ((ZA 8 p.gen ++ ZA 4 p.idx) ++ [(p.dat.length : Int) % 256]).length = 13 by rw [List.length_append, List.length_append, Xm, Xm]; rfl)]; omega) (U2 (show ((ZA 8 p.gen ++ ZA 4 p.idx) ++ [(p.dat.length : Int) % 256]).length = 13 by rw [List.length_append, List.length_append, Xm, Xm]; rfl) (by omega))) rfl ?_
    rintro _ W46 ⟨k48, o47⟩
    replace k3 := k3.other o47 n18
    replace k8 := k8.other o47 n19
    clear k45
    replace h1 := h1.only o47 (.head _)
    replace hB := o47.below hB l20
    replace hL := LL.only hL o47
    refine Ni (hK43 (Sq fun K49 hK49 => (Sq fun K50 hK50 => ?_)))
    replace k48 : Xe W46 W7.heap.size (Qq (((((ZA 8 p.gen ++ ZA 4 p.idx) ++ [(p.dat.length : Int) % 256]) ++ [p.mks % 256]) ++ p.dat.take 0) ++ zr (114 - 0))) := by rw [List.take_zero, List.append_nil, hmk2]; exact k48
    refine Rg (Pu rfl (Ni (hK50 (WC.block ?_))))
    refine WC.loop (fun (k : Nat) => [(1, .pointer (some ⟨w.heap.size, 0, none⟩)), (2, .pointer (some ⟨W2.heap.size, 0, none⟩)), (3, .pointer (some ⟨W7.heap.size, 0, none⟩)), (6, .int .i64 (k : Int))]) (fun (k : Nat) W => k <= p.dat.length /\ Below w.heap.size w W /\ LL (W7.heap.size :: W2.heap.size :: w.heap.size :: L) W /\ QC 1 (W7.heap.size :: W2.heap.size :: w.heap.size :: L) W dv (Vq p.dat) /\ Xe W w.heap.size [.int .i64 p.gen, .int .i64 p.idx, .int .u8 p.mks, dv] /\ Xe W W2.heap.size (Qq z0) /\ Xe W W7.heap.size (Qq (((((ZA 8 p.gen ++ ZA 4 p.idx) ++ [(p.dat.length : Int) % 256]) ++ [p.mks % 256]) ++ p.dat.take k) ++ zr (114 - k)))) (fun (k : Nat) => p.dat.length - k) 0 (by repeat first | exact trivial | refine aR ?_ | refine aI (by omega) ?_) ⟨Nat.zero_le _, hB, hL, h1, k3, k8, k48⟩ ?_
    clear h1 k3 k8 k48 hB hL
    rintro K51 k W52 ⟨hk, hB, hL, h1, k3, k8, k48⟩ hK51
    refine Sq fun K53 hK53 => (Sq fun K54 hK54 => (Rg (Pu rfl (Va (Qm (o1 := 3) rfl Y5 rfl rfl) rfl rfl (Va (Qi rfl Zj rfl (k3.cell (k := 3) rfl)) rfl rfl (Va (QY rfl QF rfl h1) rfl rfl (Va (Xh rfl rfl rfl) rfl rfl ?_)))))))
    refine Ni (hK54 ?_)
    refine WC.cond rfl (fun c55 => ?_) (fun c55 => ?_)
    .
     replace c55 := dT c55
     refine WC.skip (hK53 (Sq fun K56 hK56 => (WC.block (Rg (Pu rfl (Va (QR (r := 14 + (k : Int)) rfl rfl rfl (Qn (by omega))) rfl rfl (Va (Qm (o1 := 3) rfl Y5 rfl rfl) rfl rfl ?_)))))))
     refine Va (Qi rfl Zj rfl (k3.cell (k := 3) rfl)) rfl rfl (Pu rfl ?_)
     obtain ⟨r57, e58⟩ : ∃ x, p.dat[k]? = some x := ⟨_, List.getElem?_eq_getElem (by omega)⟩
     refine Ge (XR k rfl QF rfl rfl h1 (by omega) (XL (enc := fun x => [Value.int .u8 x]) e58)) rfl rfl ?_
     rintro u59 _ ⟨rfl, p60⟩
     refine Va (ZR rfl XX rfl p60) rfl rfl (Va (QS (o1 := 14 + k) rfl Tryd.underlying75 Qx rfl rfl (by omega) (by omega)) rfl rfl ?_)
     refine WL.do (Qh (cs' := Qq ((((((ZA 8 p.gen ++ ZA 4 p.idx) ++ [(p.dat.length : Int) % 256]) ++ [p.mks % 256]) ++ p.dat.take k) ++ [r57]) ++ zr (113 - k))) (vs := [.int .u8 r57]) rfl Qx rfl rfl rfl (oC rfl Qk) k48 rfl (by rw [Qo, List.length_append, List.length_replicate, (show ((((ZA 8 p.gen ++ ZA 4 p.idx) ++ [(p.dat.length : Int) % 256]) ++ [p.mks % 256]) ++ p.dat.take k).length = 14 + k by rw [List.length_append, List.length_append, List.length_append, List.length_append, Xm, Xm, List.length_take]; simp; omega)]; omega) (U2 (show ((((ZA 8 p.gen ++ ZA 4 p.idx) ++ [(p.dat.length : Int) % 256]) ++ [p.mks % 256]) ++ p.dat.take k).length = 14 + k by rw [List.length_append, List.length_append, List.length_append, List.length_append, Xm, Xm, List.length_take]; simp; omega) (by omega))) rfl ?_
     rintro _ W61 ⟨k63, o62⟩
     replace k3 := k3.other o62 n18
     replace k8 := k8.other o62 n19
     clear k48
     replace h1 := h1.only o62 (.head _)
     replace hB := o62.below hB l20
     replace hL := LL.only hL o62
     refine Ni (hK56 (Rg (Pu rfl (Va (QR (r := (k : Int) + 1) rfl rfl rfl (Qn (by omega))) rfl rfl (Pu rfl (Ni ?_))))))
     replace k63 : Xe W61 W7.heap.size (Qq (((((ZA 8 p.gen ++ ZA 4 p.idx) ++ [(p.dat.length : Int) % 256]) ++ [p.mks % 256]) ++ p.dat.take (k + 1)) ++ zr (114 - (k + 1)))) := by rw [List.take_add_one, e58, Option.toList_some, <- List.append_assoc, show 114 - (k + 1) = 113 - k by omega]; exact k63
     exact hK51 (k + 1) ⟨(by omega), hB, hL, h1, k3, k8, k63⟩ (by omega) (by repeat first | exact trivial | refine aR ?_ | refine aI (by omega) ?_)
    .
     replace c55 := dF c55
     refine WC.exit ?_
     refine hK49 (Sq fun K64 hK64 => ?_)
     have hl6 : (XJ p).length = 120 := YE (by omega)
     replace k48 : Xe W52 W7.heap.size (Qq (XJ p ++ zr 8)) := by obtain rfl : k = p.dat.length := (by omega); rw [List.take_length] at k48; have e_ : XJ p ++ zr 8 = ((((ZA 8 p.gen ++ ZA 4 p.idx) ++ [(p.dat.length : Int) % 256]) ++ [p.mks % 256]) ++ p.dat) ++ zr (114 - p.dat.length) := (by unfold XJ; rw [List.append_assoc (_ ++ p.dat) (zr (106 - p.dat.length)) (zr 8), List.replicate_append_replicate, show 106 - p.dat.length + 8 = 114 - p.dat.length by omega]); rw [e_]; exact k48
     refine Rg (Va (Jc 120 rfl Tryd.underlying75 Qx rfl rfl (by omega) (by omega) (by decide)) rfl rfl ?_)
     refine Ge (QO rfl Tryd.func84 rfl rfl rfl (F2 (XJ p) _ W52 [] (LL.nil _) (by have e_ := JH k48 0 120 128 (by rw [List.length_append, hl6]; simp) (by omega) (by unfold maxLen; omega); rw [List.drop_zero, List.take_append_of_le_length (by omega), List.take_of_length_le (by omega)] at e_; exact e_) ⟨hR.below hB, by simp, by simp⟩ (by omega) (Kv hby))) rfl rfl ?_
     rintro _ W66 ⟨rfl, b65⟩
     replace h1 := h1.below b65
     replace k3 := k3.below b65
     replace k8 := k8.below b65
     replace k48 := k48.below b65
     replace hB := Qe hB b65
     replace hL := LL.below hL b65
     refine Ge (Qs (cs := Qq (zr 32)) rfl VO HI) rfl rfl ?_
     rintro _ W67 ⟨rfl, k68, b69, z70⟩
     have n71 : w.heap.size ≠ W66.heap.size := Nat.ne_of_lt k3.lt
     have n72 : W2.heap.size ≠ W66.heap.size := Nat.ne_of_lt k8.lt
     have n73 : W7.heap.size ≠ W66.heap.size := Nat.ne_of_lt k48.lt
     have l74 := hB.size
     replace h1 := h1.more b69 (Nat.le_refl _)
     replace k3 := k3.below b69
     replace k8 := k8.below b69
     replace k48 := k48.below b69
     replace hB := Qe hB b69
     replace hL := LL.more hL z70
     refine WL.do (QB (vs := (Qq (XD (XJ p)))) rfl VB rfl rfl rfl (YT (XD (XJ p))) k68 (by rw [Qo]; exact (Vw _)) (by rw [Qo]; rfl)) rfl ?_
     rintro _ W75 ⟨k77, o76⟩
     replace k3 := k3.other o76 n71
     replace k8 := k8.other o76 n72
     replace k48 := k48.other o76 n73
     clear k68
     replace h1 := h1.only o76 (.head _)
     replace hB := o76.below hB l74
     replace hL := LL.only hL o76
     refine Ni (hK64 (Sq fun K78 hK78 => (Sq fun K79 hK79 => ?_)))
     replace k48 : Xe W75 W7.heap.size (Qq ((XJ p ++ (XD (XJ p)).take 0) ++ zr (8 - 0))) := by rw [List.take_zero, List.append_nil]; exact k48
     have hsl : (XD (XJ p)).length = 32 := Vw _
     refine Rg (Pu rfl (Ni (hK79 (WC.block ?_))))
     refine WC.loop (fun (t : Nat) => [(1, .pointer (some ⟨w.heap.size, 0, none⟩)), (2, .pointer (some ⟨W2.heap.size, 0, none⟩)), (3, .pointer (some ⟨W7.heap.size, 0, none⟩)), (7, .pointer (some ⟨W66.heap.size, 0, none⟩)), (8, .int .i64 (t : Int))]) (fun (t : Nat) W => t <= 8 /\ Below w.heap.size w W /\ LL (W66.heap.size :: W7.heap.size :: W2.heap.size :: w.heap.size :: L) W /\ QC 1 (W66.heap.size :: W7.heap.size :: W2.heap.size :: w.heap.size :: L) W dv (Vq p.dat) /\ Xe W w.heap.size [.int .i64 p.gen, .int .i64 p.idx, .int .u8 p.mks, dv] /\ Xe W W2.heap.size (Qq z0) /\ Xe W W7.heap.size (Qq ((XJ p ++ (XD (XJ p)).take t) ++ zr (8 - t))) /\ Xe W W66.heap.size (Qq (XD (XJ p)))) (fun (t : Nat) => 8 - t) 0 (by repeat first | exact trivial | refine aR ?_ | refine aI (by omega) ?_) ⟨(by decide), hB, hL, h1, k3, k8, k48, k77⟩ ?_
     clear h1 k3 k8 k48 k77 hB hL
     rintro K80 t W81 ⟨ht, hB, hL, h1, k3, k8, k48, k77⟩ hK80
     refine Sq fun K82 hK82 => (Sq fun K83 hK83 => (Rg (Pu rfl (Va (Xh rfl rfl rfl) rfl rfl (Ni (hK83 ?_))))))
     refine WC.cond rfl (fun c84 => ?_) (fun c84 => ?_)
     .
      replace c84 := dT c84
      refine WC.skip (hK82 (Sq fun K85 hK85 => (WC.block (Rg (Pu rfl (Va (QR (r := 120 + (t : Int)) rfl rfl rfl (Qn (by omega))) rfl rfl (Pu rfl ?_)))))))
      refine Va (QS (o1 := t) rfl Tryd.underlying132 Qx rfl rfl (by omega) (by omega)) rfl rfl ?_
      refine Va (ZS (Qi rfl XX rfl (k77.cell (UU (by omega)))) (show _ = Value.int .u8 (QV (XD (XJ p)) t) by unfold QV; rw [List.getElem?_eq_getElem (by omega)])) rfl rfl ?_
      refine Va (QS (o1 := 120 + t) rfl Tryd.underlying75 Qx rfl rfl (by omega) (by omega)) rfl rfl ?_
      refine WL.do (Qh (cs' := Qq (((XJ p ++ (XD (XJ p)).take t) ++ [(QV (XD (XJ p)) t)]) ++ zr (7 - t))) (vs := [.int .u8 (QV (XD (XJ p)) t)]) rfl Qx rfl rfl rfl (oC rfl Qk) k48 rfl (by rw [Qo, List.length_append, List.length_replicate, (show (XJ p ++ (XD (XJ p)).take t).length = 120 + t by rw [List.length_append, hl6, List.length_take]; omega)]; omega) (U2 (show (XJ p ++ (XD (XJ p)).take t).length = 120 + t by rw [List.length_append, hl6, List.length_take]; omega) (by omega))) rfl ?_
      rintro _ W86 ⟨k88, o87⟩
      replace k3 := k3.other o87 n18
      replace k8 := k8.other o87 n19
      replace k77 := k77.other o87 n73.symm
      clear k48
      replace h1 := h1.only o87 (.tail _ (.head _))
      replace hB := o87.below hB l20
      replace hL := LL.only hL o87
      refine Ni (hK85 (Rg (Pu rfl (Va (QR (r := (t : Int) + 1) rfl rfl rfl (Qn (by omega))) rfl rfl (Pu rfl (Ni ?_))))))
      replace k88 : Xe W86 W7.heap.size (Qq ((XJ p ++ (XD (XJ p)).take (t + 1)) ++ zr (8 - (t + 1)))) := by rw [YX _ t (by omega), <- List.append_assoc, show 8 - (t + 1) = 7 - t by omega]; exact k88
      exact hK80 (t + 1) ⟨(by omega), hB, hL, h1, k3, k8, k88, k77⟩ (by omega) (by repeat first | exact trivial | refine aR ?_ | refine aI (by omega) ?_)
     .
      replace c84 := dF c84
      refine WC.exit ?_
      refine hK78 (Sq fun K89 hK89 => ?_)
      replace k48 : Xe W81 W7.heap.size (Qq (Xj p)) := by obtain rfl : t = 8 := (by omega); have e_ : Xj p = (XJ p ++ (XD (XJ p)).take 8) ++ zr (8 - 8) := (by unfold Xj; rw [Nat.sub_self]; exact (List.append_nil _).symm); rw [e_]; exact k48
      refine Rg (Va (Qg rfl QA rfl k48.range (by rw [Qo, Z5 (by omega)])) rfl rfl ?_)
      refine WL.do (QB (vs := (Qq (Xj p))) rfl Q2 rfl rfl rfl (YT (Xj p)) k8 (by rw [Qo]; exact (Z5 (by omega))) (by rw [Qo]; exact Xy)) rfl ?_
      rintro _ W90 ⟨k92, o91⟩
      clear k8
      replace hB := o91.below hB l12
      refine Ni (hK89 ?_)
      exact WC.ret fun a_ ha_ => hQ (QI rfl (.agg rfl QA k92.range (by rw [Qo]; exact (Z5 (by omega)))) rfl hB ha_)

theorem Qcd {x b : Int} (h0 : 0 <= x) (hx : x < 281474976710656) (hb : 0 <= b /\ b <= 255) : bits BinOp.or IntKind.i64 (x * 256) b = b + 256 * x := by
 have e := EB (x * 256) b
 rw [Qn (x := b) (by omega)] at e
 rw [e, Gr (x * 256) b 8 (by omega) (by omega) (by omega) hb.1 (by omega) (by omega), Qn (by omega)]
 omega
theorem Ex {l : List Int} {n : Nat} (h0 : 1 <= n) (hn : n <= l.length) : Za (l.drop (n - 1)) = l[n - 1]?.getD 0 + 256 * Za (l.drop n) := by
 rw [show l.drop (n - 1) = l[n - 1] :: l.drop (n - 1 + 1) from List.drop_eq_getElem_cons (by omega), Za, List.getElem?_eq_getElem (by omega), show n - 1 + 1 = n by omega]
 rfl
theorem Du {z : List Int} {k i : Nat} (h : i < k) : (z.take k)[i]? = z[i]? := by rw [List.getElem?_take, if_pos h]
theorem D7 {l : List Int} (h : ZX l) {n m : Nat} (hm : l.length <= m + n) : 0 <= Za (l.drop n) /\ Za (l.drop n) < 2 ^ (8 * m) := by
 have h1 := Uh (l.drop n) fun x hx => h x (List.mem_of_mem_drop hx)
 refine ⟨h1.1, Int.lt_of_lt_of_le h1.2 ?_⟩
 rw [List.length_drop]
 obtain ⟨d, hd⟩ : ∃ d, m = l.length - n + d := ⟨m - (l.length - n), by omega⟩
 rw [hd, Nat.mul_add, Int.pow_add]
 have h2 : (0 : Int) < 2 ^ (8 * d) := Int.pow_pos (by decide)
 have h3 : (0 : Int) < 2 ^ (8 * (l.length - n)) := Int.pow_pos (by decide)
 have h4 := Int.mul_le_mul_of_nonneg_left (show (1 : Int) <= 2 ^ (8 * d) by omega) (Int.le_of_lt h3)
 rwa [Int.mul_one] at h4
theorem Qfv {z : List Int} (hz : z.length = 128) : (z.drop 0).take 8 = (z.take 6 ++ [z[6]?.getD 0]) ++ [z[7]?.getD 0] := by
 rw [List.drop_zero, show (8 : Nat) = 7 + 1 from rfl, List.take_add_one, show (7 : Nat) = 6 + 1 from rfl, List.take_add_one, List.getElem?_eq_getElem (by omega), List.getElem?_eq_getElem (by omega)]
 rfl
theorem Eu {z : List Int} (hz : z.length = 128) (hb : ZX z) : Za ((z.drop 0).take 8) = Za (z.take 6) + (z[6]?.getD 0) * 281474976710656 + (z[7]?.getD 0) * 72057594037927936 := by
 rw [Qfv hz, UF, UF, List.length_append, List.length_take, hz]
 rfl
theorem Ub {z : List Int} (hz : z.length = 128) (hb : ZX z) (h : ¬ z[7]?.getD 0 = 0 \/ ¬ z[6]?.getD 0 = 0) : X4 ((z.drop 0).take 8) < 1 \/ 1099511627776 < X4 ((z.drop 0).take 8) := by
 have h6 := V0 hb 6
 have h7 := V0 hb 7
 have hl := Uh (z.take 6) fun x hx => hb x (List.mem_of_mem_take hx)
 rw [List.length_take, hz] at hl
 have hp : (2 : Int) ^ (8 * (min 6 128)) = 281474976710656 := by decide
 rw [hp] at hl
 unfold X4
 rw [Eu hz hb, Qbn]
 split <;> omega
theorem QdM {z : List Int} (hz : z.length = 128) (hb : ZX z) (h7 : z[7]?.getD 0 = 0) (h6 : z[6]?.getD 0 = 0) : X4 ((z.drop 0).take 8) = Za (z.take 6) := by
 have hl := Uh (z.take 6) fun x hx => hb x (List.mem_of_mem_take hx)
 rw [List.length_take, hz] at hl
 have hp : (2 : Int) ^ (8 * (min 6 128)) = 281474976710656 := by decide
 rw [hp] at hl
 unfold X4
 rw [Eu hz hb, h6, h7, Qn (by omega)]
 omega
theorem QdN {z : List Int} (hz : z.length = 128) (hb : ZX z) : X4 ((z.drop 8).take 4) = Za ((z.drop 8).take 4) := by
 have hl := Uh ((z.drop 8).take 4) (VV hb _ _)
 rw [U0 hz (by decide)] at hl
 have hp : (2 : Int) ^ (8 * 4) = 4294967296 := by decide
 rw [hp] at hl
 unfold X4
 exact Qn (by omega)
theorem Qft (l : List Int) : ∀ r ∈ Vq l, ∀ u ∈ r, u.oneCell' = true := fun r hr u hu => by
 obtain ⟨x, _, rfl⟩ := List.mem_map.1 hr
 rw [List.mem_singleton.1 hu]; rfl
theorem Qeh {z : List Int} {p : Pg} (h : VM z \/ ¬ Xj (V2 z) = z) : UnS z p false := ⟨fun h => (by cases h), fun _ => by
  unfold Zi
  rcases h with h | h
  . rw [if_pos h]
  . split
    . rfl
    . first | rfl | rw [if_neg h]⟩
theorem Qbd : Tryd.prog.built 96 [] = some [Value.int .i64 0, .int .i64 0, .int .u8 0, .slice none 0 0].toArray := by kernel_rfl
set_option maxHeartbeats 1000000 in
theorem QaB (z : List Int) (w : World) (L : List Nat) (hL : LL L w)   (hL0 : LL L w) (hz : z.length = 128) (hbz : ZX z) (hR : UD w) : CV Tryd.prog 49 [.agg (Qq z).toArray] w fun v W => ∃ (p : Pg) (dv : Value) (b : Bool), v = .tuple #[.agg #[.int .i64 p.gen, .int .i64 p.idx, .int .u8 p.mks, dv], .bool b] /\ QC 1 L W dv (Vq p.dat) /\ UnS z p b /\ ZX p.dat /\ p.dat.length <= 100 /\ (0 <= p.mks /\ p.mks <= 255) := by
 refine QL (N := 80) (f := [(0, .agg (Qq z).toArray)]) Tryd.func49 rfl rfl rfl rfl fun Q hQ hE => ?_
 have hB := Below.refl w.heap.size w
 refine Sq fun K1 hK1 => (Rg ?_)
 refine Ge (Xb (cs := (Qq z)) rfl rfl rfl) rfl rfl ?_
 rintro _ W2 ⟨rfl, k3, b4, z5⟩
 have l6 := hB.size
 replace hB := Qe hB b4
 replace hL := LL.more hL z5
 refine Ge (Qs rfl VA rfl) rfl rfl ?_
 rintro _ W7 ⟨rfl, k8, b9, z10⟩
 have l12 := hB.size
 replace k3 := k3.below b9
 replace hB := Qe hB b9
 replace hL := LL.more hL z10
 refine Pu rfl (Ni (hK1 (Sq fun K13 hK13 => ?_)))
 have hb6 := V0 hbz 6
 have hb7 := V0 hbz 7
 have hb12 := V0 hbz 12
 have hb13 := V0 hbz 13
 obtain ⟨q, hq⟩ : ∃ q : Nat, z[12]?.getD 0 = (q : Int) := ⟨(z[12]?.getD 0).toNat, by omega⟩
 have hl6 : (z.take 6).length = 6 := by rw [List.length_take]; omega
 have hl4 := U0 hz (a := 8) (b := 4) (by decide)
 have hb6s : ZX (z.take 6) := fun x hx => hbz x (List.mem_of_mem_take hx)
 have hb4s := VV hbz 8 4
 refine Rg ?_
 refine Ge (Qs rfl VA rfl) rfl rfl ?_
 rintro _ W14 ⟨rfl, k15, b16, z17⟩
 have n18 : w.heap.size ≠ W7.heap.size := Nat.ne_of_lt k3.lt
 have n19 : W2.heap.size ≠ W7.heap.size := Nat.ne_of_lt k8.lt
 have l20 := hB.size
 replace k3 := k3.below b16
 replace k8 := k8.below b16
 replace hB := Qe hB b16
 replace hL := LL.more hL z17
 refine Ni (hK13 (Sq fun K21 hK21 => (Sq fun K22 hK22 => (Rg (Va (QS (o1 := 7) rfl Tryd.underlying75 Qx rfl rfl (by omega) (by first | (simp; done) | omega)) rfl rfl (Va (Qi rfl XX rfl (k3.cell (k := 7) (UU (by rw [show z.length = 128 from hz]; exact (by omega))))) rfl rfl (Va (Xr rfl rfl rfl) rfl rfl ?_)))))))
 refine Pu rfl ?_
 refine WL.split 10 rfl (fun g23 => ?_) (fun g23 => ?_)
 .
  replace g23 := Q7 g23
  replace g23 := dF g23
  refine Of rfl (Of rfl (Of rfl (Pu rfl (Pu rfl (Of rfl (Of rfl (Of rfl ?_)))))))
  refine Pu rfl (Ni (hK22 (WC.condT rfl (Sq fun K24 hK24 => (Rg (Va (Qg rfl XB rfl k15.range rfl) rfl rfl ?_))))))
  refine WL.do (Qh (cs' := [.int .i64 0, .int .i64 0, .int .u8 0, .slice none 0 0]) (vs := [.int .i64 0, .int .i64 0, .int .u8 0, .slice none 0 0]) rfl ZG rfl rfl rfl (oC rfl (oC rfl (oC rfl (oC rfl Qk)))) k8 rfl (nB rfl) rfl) rfl ?_
  rintro _ W25 ⟨k27, o26⟩
  clear k8
  replace hB := o26.below hB l12
  refine Pu rfl (Ni (hK24 ?_))
  exact WC.ret fun a_ ha_ => hQ (QM rfl (.agg rfl XB k27.range rfl) (.tmp rfl) ⟨⟨0, 0, 0, []⟩, _, false, rfl, QC.nil (by decide), Ui (by unfold VM; by_cases h7_ : z[7]?.getD 0 = 0; (by_cases h6_ : z[6]?.getD 0 = 0; exact .inr (.inr (.inl (by first | omega | (simp_all; omega)))); (rcases Ub hz hbz (.inr h6_) with h_ | h_; exact .inl h_; exact .inr (.inl h_))); (rcases Ub hz hbz (.inl h7_) with h_ | h_; exact .inl h_; exact .inr (.inl h_))), fun x hx => (by cases hx), by show 0 <= 100; omega, by show (0 : Int) <= 0 /\ (0 : Int) <= 255; omega⟩ hB ha_)
 .
  replace g23 := Q4 g23
  replace g23 := dT g23
  refine Va (QS (o1 := 6) rfl Tryd.underlying75 Qx rfl rfl (by omega) (by first | (simp; done) | omega)) rfl rfl (Va (Qi rfl XX rfl (k3.cell (k := 6) (UU (by rw [show z.length = 128 from hz]; exact (by omega))))) rfl rfl (Va (Xr rfl rfl rfl) rfl rfl (Pu rfl (Pu rfl ?_))))
  refine WL.split 15 rfl (fun g28 => ?_) (fun g28 => ?_)
  .
   replace g28 := Q7 g28
   replace g28 := dF g28
   refine Of rfl (Of rfl (Of rfl (Pu rfl (Ni (hK22 (WC.condT rfl (Sq fun K29 hK29 => ?_)))))))
   refine Rg (Va (Qg rfl XB rfl k15.range rfl) rfl rfl ?_)
   refine WL.do (Qh (cs' := [.int .i64 0, .int .i64 0, .int .u8 0, .slice none 0 0]) (vs := [.int .i64 0, .int .i64 0, .int .u8 0, .slice none 0 0]) rfl ZG rfl rfl rfl (oC rfl (oC rfl (oC rfl (oC rfl Qk)))) k8 rfl (nB rfl) rfl) rfl ?_
   rintro _ W30 ⟨k32, o31⟩
   clear k8
   replace hB := o31.below hB l12
   refine Pu rfl (Ni (hK29 ?_))
   exact WC.ret fun a_ ha_ => hQ (QM rfl (.agg rfl XB k32.range rfl) (.tmp rfl) ⟨⟨0, 0, 0, []⟩, _, false, rfl, QC.nil (by decide), Ui (by unfold VM; by_cases h7_ : z[7]?.getD 0 = 0; (by_cases h6_ : z[6]?.getD 0 = 0; exact .inr (.inr (.inl (by first | omega | (simp_all; omega)))); (rcases Ub hz hbz (.inr h6_) with h_ | h_; exact .inl h_; exact .inr (.inl h_))); (rcases Ub hz hbz (.inl h7_) with h_ | h_; exact .inl h_; exact .inr (.inl h_))), fun x hx => (by cases hx), by show 0 <= 100; omega, by show (0 : Int) <= 0 /\ (0 : Int) <= 255; omega⟩ hB ha_)
  .
   replace g28 := Q4 g28
   replace g28 := dT g28
   refine Va (QS (o1 := 12) rfl Tryd.underlying75 Qx rfl rfl (by omega) (by first | (simp; done) | omega)) rfl rfl (Va (Qi rfl XX rfl (k3.cell (k := 12) (UU (by rw [show z.length = 128 from hz]; exact (by omega))))) rfl rfl (Va (XQ rfl rfl rfl) rfl rfl (Pu rfl (Ni (hK22 ?_)))))
   refine WC.cond rfl (fun c33 => ?_) (fun c33 => ?_)
   .
    replace c33 := dT c33
    refine Sq fun K34 hK34 => (Rg (Va (Qg rfl XB rfl k15.range rfl) rfl rfl ?_))
    refine WL.do (Qh (cs' := [.int .i64 0, .int .i64 0, .int .u8 0, .slice none 0 0]) (vs := [.int .i64 0, .int .i64 0, .int .u8 0, .slice none 0 0]) rfl ZG rfl rfl rfl (oC rfl (oC rfl (oC rfl (oC rfl Qk)))) k8 rfl (nB rfl) rfl) rfl ?_
    rintro _ W35 ⟨k37, o36⟩
    clear k8
    replace hB := o36.below hB l12
    refine Pu rfl (Ni (hK34 ?_))
    exact WC.ret fun a_ ha_ => hQ (QM rfl (.agg rfl XB k37.range rfl) (.tmp rfl) ⟨⟨0, 0, 0, []⟩, _, false, rfl, QC.nil (by decide), Ui (by unfold VM; by_cases h7_ : z[7]?.getD 0 = 0; (by_cases h6_ : z[6]?.getD 0 = 0; exact .inr (.inr (.inl (by first | omega | (simp_all; omega)))); (rcases Ub hz hbz (.inr h6_) with h_ | h_; exact .inl h_; exact .inr (.inl h_))); (rcases Ub hz hbz (.inl h7_) with h_ | h_; exact .inl h_; exact .inr (.inl h_))), fun x hx => (by cases hx), by show 0 <= 100; omega, by show (0 : Int) <= 0 /\ (0 : Int) <= 255; omega⟩ hB ha_)
   .
    replace c33 := dF c33
    refine WC.skip (hK21 (Sq fun K38 hK38 => (Sq fun K39 hK39 => (Rg (Pu rfl (Ni (hK39 ?_)))))))
    refine WC.block ?_
    replace k15 : Xe W14 W7.heap.size [.int .i64 (Za ((z.take 6).drop 6)), .int .i64 0, .int .u8 0, .slice none 0 0] := by rw [show Za ((z.take 6).drop 6) = 0 by rw [List.drop_eq_nil_of_le (by omega)]; rfl]; exact k15
    refine WC.loop (fun (n : Nat) => [(1, .pointer (some ⟨w.heap.size, 0, none⟩)), (2, .pointer (some ⟨W2.heap.size, 0, none⟩)), (3, .bool false), (4, .pointer (some ⟨W7.heap.size, 0, none⟩)), (5, .int .i64 ((n : Int) - 1))]) (fun (n : Nat) W => n <= 6 /\ Below w.heap.size w W /\ LL (W7.heap.size :: W2.heap.size :: w.heap.size :: L) W /\ Xe W w.heap.size (Qq z) /\ Xe W W2.heap.size [.int .i64 0, .int .i64 0, .int .u8 0, .slice none 0 0] /\ Xe W W7.heap.size [.int .i64 (Za ((z.take 6).drop n)), .int .i64 0, .int .u8 0, .slice none 0 0]) (fun (n : Nat) => n) 6 (by repeat first | exact trivial | refine aR ?_ | refine aI (by omega) ?_) ⟨(Nat.le_refl _), hB, hL, k3, k8, k15⟩ ?_
    clear k3 k8 k15 hB hL
    rintro K40 n W41 ⟨hn, hB, hL, k3, k8, k15⟩ hK40
    refine Sq fun K42 hK42 => (Sq fun K43 hK43 => (Rg (Pu rfl (Va (Yo rfl rfl rfl) rfl rfl (Ni (hK43 ?_))))))
    refine WC.cond rfl (fun c44 => ?_) (fun c44 => ?_)
    .
     replace c44 := dT c44
     refine WC.skip (hK42 (Sq fun K45 hK45 => (WC.block ?_)))
     have hbn := V0 hbz (n - 1)
     have hvn := D7 hb6s (n := n) (m := 6) (by omega)
     have hpw : (2 : Int) ^ (8 * 6) = 281474976710656 := by decide
     rw [hpw] at hvn
     have hvs : z[n - 1]?.getD 0 + 256 * Za ((z.take 6).drop n) = Za ((z.take 6).drop (n - 1)) := by rw [Ex (by omega) (by omega), Du (by omega)]
     refine dM 7 [(some 25, .is (.pointer (some ⟨W7.heap.size, 0, none⟩))), (some 26, .is (.int .i64 (Za ((z.take 6).drop n)))), (some 27, .is (.int .i64 ((Za ((z.take 6).drop n)) * 256))), (some 28, .is (.int .i64 ((n : Int) - 1))), (some 29, .is (.pointer (some ⟨w.heap.size, (n - 1), none⟩))), (some 30, .is (.int .u8 (z[n - 1]?.getD 0))), (some 31, .is (.int .i64 (z[n - 1]?.getD 0)))] [[], [0], [1], [], [3], [4], [5]] (by exact trivial) ?_ ?_
     .
      refine Dc (fun Wd hd => ?_) ?_
      .
       exact Dd (Qm (o1 := 0) rfl Z4 rfl rfl) rfl
      refine Dc (fun Wd hd => ?_) ?_
      .
       have k15 := k15.below hd
       exact Dd (Qi rfl Qu rfl (k15.cell (k := 0) rfl)) rfl
      refine Dc (fun Wd hd => ?_) ?_
      .
       exact Dd (Ft (r := (Za ((z.take 6).drop n)) * 256) rfl rfl rfl (by decide) (by decide) (by rw [show ((8 : Int)).toNat = 8 from rfl]; exact Qn (by omega))) rfl
      refine Dc (fun Wd hd => ?_) ?_
      .
       exact Dd (Qt rfl rfl) rfl
      refine Dc (fun Wd hd => ?_) ?_
      .
       exact Dd (QS (o1 := n - 1) rfl Tryd.underlying75 Qx rfl rfl (by omega) (by omega)) rfl
      refine Dc (fun Wd hd => ?_) ?_
      .
       have k3 := k3.below hd
       exact Dd (Qi rfl XX rfl (k3.cell (UU (by omega)))) rfl
      refine Dc (fun Wd hd => ?_) ?_
      .
       exact Dd (XM (r := z[n - 1]?.getD 0) rfl Tryd.underlying5 Tryd.underlying3 rfl (Qn (by omega))) rfl
      exact trivial
     .
      intro W46 b47
      replace k3 := k3.below b47
      replace k8 := k8.below b47
      replace k15 := k15.below b47
      replace hB := Qe hB b47
      replace hL := LL.below hL b47
      refine Va (Je (r := Za ((z.take 6).drop (n - 1))) rfl rfl rfl ((Qcd hvn.1 (by omega) hbn).trans hvs)) rfl rfl (Va (Qm (o1 := 0) rfl Z4 rfl rfl) rfl rfl ?_)
      refine WL.do (Qh (cs' := [.int .i64 (Za ((z.take 6).drop (n - 1))), .int .i64 0, .int .u8 0, .slice none 0 0]) (vs := [.int .i64 (Za ((z.take 6).drop (n - 1)))]) rfl Zr rfl rfl rfl (oC rfl Qk) k15 rfl (nB rfl) rfl) rfl ?_
      rintro _ W48 ⟨k50, o49⟩
      replace k3 := k3.other o49 n18
      replace k8 := k8.other o49 n19
      clear k15
      replace hB := o49.below hB l20
      replace hL := LL.only hL o49
      refine Ni (hK45 (Rg (Pu rfl (Va (Zn (r := ((n - 1 : Nat) : Int) - 1) rfl rfl rfl (by rw [Qn (by omega)]; omega)) rfl rfl (Pu rfl (Ni ?_))))))
      exact hK40 (n - 1) ⟨(by omega), hB, hL, k3, k8, k50⟩ (by omega) (by repeat first | exact trivial | refine aR ?_ | refine aI (by omega) ?_)
    .
     replace c44 := dF c44
     refine WC.exit ?_
     refine hK38 (Sq fun K51 hK51 => (Sq fun K52 hK52 => (Rg (Pu rfl (Ni (hK52 (WC.block ?_)))))))
     replace k15 : Xe W41 W7.heap.size [.int .i64 (Za ((z.take 6).drop n)), .int .i64 (Za (((z.drop 8).take 4).drop 4)), .int .u8 0, .slice none 0 0] := by rw [show Za (((z.drop 8).take 4).drop 4) = 0 by rw [List.drop_eq_nil_of_le (by omega)]; rfl]; exact k15
     refine WC.loop (fun (m : Nat) => [(1, .pointer (some ⟨w.heap.size, 0, none⟩)), (2, .pointer (some ⟨W2.heap.size, 0, none⟩)), (3, .bool false), (4, .pointer (some ⟨W7.heap.size, 0, none⟩)), (6, .int .i64 ((m : Int) - 1))]) (fun (m : Nat) W => m <= 4 /\ Below w.heap.size w W /\ LL (W7.heap.size :: W2.heap.size :: w.heap.size :: L) W /\ Xe W w.heap.size (Qq z) /\ Xe W W2.heap.size [.int .i64 0, .int .i64 0, .int .u8 0, .slice none 0 0] /\ Xe W W7.heap.size [.int .i64 (Za ((z.take 6).drop n)), .int .i64 (Za (((z.drop 8).take 4).drop m)), .int .u8 0, .slice none 0 0]) (fun (m : Nat) => m) 4 (by repeat first | exact trivial | refine aR ?_ | refine aI (by omega) ?_) ⟨(Nat.le_refl _), hB, hL, k3, k8, k15⟩ ?_
     clear k3 k8 k15 hB hL
     rintro K53 m W54 ⟨hm, hB, hL, k3, k8, k15⟩ hK53
     refine Sq fun K55 hK55 => (Sq fun K56 hK56 => (Rg (Pu rfl (Va (Yo rfl rfl rfl) rfl rfl (Ni (hK56 ?_))))))
     refine WC.cond rfl (fun c57 => ?_) (fun c57 => ?_)
     .
      replace c57 := dT c57
      refine WC.skip (hK55 (Sq fun K58 hK58 => (WC.block ?_)))
      have hbn := V0 hbz (8 + (m - 1))
      have hvn := D7 hb4s (n := m) (m := 4) (by omega)
      have hpw : (2 : Int) ^ (8 * 4) = 4294967296 := by decide
      rw [hpw] at hvn
      have hvs : z[8 + (m - 1)]?.getD 0 + 256 * Za (((z.drop 8).take 4).drop m) = Za (((z.drop 8).take 4).drop (m - 1)) := by rw [Ex (by omega) (by omega), Du (by omega), List.getElem?_drop]
      refine dM 8 [(some 38, .is (.pointer (some ⟨W7.heap.size, 1, none⟩))), (some 39, .is (.int .i64 (Za (((z.drop 8).take 4).drop m)))), (some 40, .is (.int .i64 ((Za (((z.drop 8).take 4).drop m)) * 256))), (some 41, .is (.int .i64 ((m : Int) - 1))), (some 42, .is (.int .i64 (8 + ((m : Int) - 1)))), (some 43, .is (.pointer (some ⟨w.heap.size, (8 + (m - 1)), none⟩))), (some 44, .is (.int .u8 (z[8 + (m - 1)]?.getD 0))), (some 45, .is (.int .i64 (z[8 + (m - 1)]?.getD 0)))] [[], [0], [1], [], [3], [4], [5], [6]] (by exact trivial) ?_ ?_
      .
       refine Dc (fun Wd hd => ?_) ?_
       .
        exact Dd (Qm (o1 := 1) rfl Y6 rfl rfl) rfl
       refine Dc (fun Wd hd => ?_) ?_
       .
        have k15 := k15.below hd
        exact Dd (Qi rfl Qu rfl (k15.cell (k := 1) rfl)) rfl
       refine Dc (fun Wd hd => ?_) ?_
       .
        exact Dd (Ft (r := (Za (((z.drop 8).take 4).drop m)) * 256) rfl rfl rfl (by decide) (by decide) (by rw [show ((8 : Int)).toNat = 8 from rfl]; exact Qn (by omega))) rfl
       refine Dc (fun Wd hd => ?_) ?_
       .
        exact Dd (Qt rfl rfl) rfl
       refine Dc (fun Wd hd => ?_) ?_
       .
        exact Dd (QR (r := 8 + ((m : Int) - 1)) rfl rfl rfl (Qn (by omega))) rfl
       refine Dc (fun Wd hd => ?_) ?_
       .
        exact Dd (QS (o1 := 8 + (m - 1)) rfl Tryd.underlying75 Qx rfl rfl (by omega) (by omega)) rfl
       refine Dc (fun Wd hd => ?_) ?_
       .
        have k3 := k3.below hd
        exact Dd (Qi rfl XX rfl (k3.cell (UU (by omega)))) rfl
       refine Dc (fun Wd hd => ?_) ?_
       .
        exact Dd (XM (r := z[8 + (m - 1)]?.getD 0) rfl Tryd.underlying5 Tryd.underlying3 rfl (Qn (by omega))) rfl
       exact trivial
      .
       intro W59 b60
       replace k3 := k3.below b60
       replace k8 := k8.below b60
       replace k15 := k15.below b60
       replace hB := Qe hB b60
       replace hL := LL.below hL b60
       refine Va (Je (r := Za (((z.drop 8).take 4).drop (m - 1))) rfl rfl rfl ((Qcd hvn.1 (by omega) hbn).trans hvs)) rfl rfl (Va (Qm (o1 := 1) rfl Y6 rfl rfl) rfl rfl ?_)
       refine WL.do (Qh (cs' := [.int .i64 (Za ((z.take 6).drop n)), .int .i64 (Za (((z.drop 8).take 4).drop (m - 1))), .int .u8 0, .slice none 0 0]) (vs := [.int .i64 (Za (((z.drop 8).take 4).drop (m - 1)))]) rfl Zr rfl rfl rfl (oC rfl Qk) k15 rfl (nB rfl) rfl) rfl ?_
       rintro _ W61 ⟨k63, o62⟩
       replace k3 := k3.other o62 n18
       replace k8 := k8.other o62 n19
       clear k15
       replace hB := o62.below hB l20
       replace hL := LL.only hL o62
       refine Ni (hK58 (Rg (Pu rfl (Va (Zn (r := ((m - 1 : Nat) : Int) - 1) rfl rfl rfl (by rw [Qn (by omega)]; omega)) rfl rfl (Pu rfl (Ni ?_))))))
       exact hK53 (m - 1) ⟨(by omega), hB, hL, k3, k8, k63⟩ (by omega) (by repeat first | exact trivial | refine aR ?_ | refine aI (by omega) ?_)
     .
      replace c57 := dF c57
      refine WC.exit ?_
      refine hK51 (Sq fun K64 hK64 => ?_)
      have hn0 : n = 0 := by omega
      have hm0 : m = 0 := by omega
      have hq100 : q <= 100 := by omega
      have hdl : ((z.drop 14).take q).length = q := U0 hz (by omega)
      refine Rg (Va (QS (o1 := 13) rfl Tryd.underlying75 Qx rfl rfl (by omega) (by first | (simp; done) | omega)) rfl rfl (Va (Qi rfl XX rfl (k3.cell (k := 13) (UU (by rw [show z.length = 128 from hz]; exact (by omega))))) rfl rfl (Va (Qm (o1 := 2) rfl Zs rfl rfl) rfl rfl ?_)))
      refine WL.do (Qh (cs' := [.int .i64 (Za ((z.take 6).drop n)), .int .i64 (Za (((z.drop 8).take 4).drop m)), .int .u8 (z[13]?.getD 0), .slice none 0 0]) (vs := [.int .u8 (z[13]?.getD 0)]) rfl Qx rfl rfl rfl (oC rfl Qk) k15 rfl (nB rfl) rfl) rfl ?_
      rintro _ W65 ⟨k67, o66⟩
      replace k3 := k3.other o66 n18
      replace k8 := k8.other o66 n19
      clear k15
      replace hB := o66.below hB l20
      refine Ni (hK64 (Sq fun K68 hK68 => (Rg ?_)))
      refine Ge (Ga rfl XY (by decide)) rfl rfl ?_
      rintro u73 W69 ⟨k70, b71, z72⟩
      have n74 : w.heap.size ≠ W65.heap.size := Nat.ne_of_lt k3.lt
      have n75 : W2.heap.size ≠ W65.heap.size := Nat.ne_of_lt k8.lt
      have n76 : W7.heap.size ≠ W65.heap.size := Nat.ne_of_lt k67.lt
      have l77 := hB.size
      replace k3 := k3.below b71
      replace k8 := k8.below b71
      replace k67 := k67.below b71
      replace hB := Qe hB b71
      refine Va (QS (o1 := 12) rfl Tryd.underlying75 Qx rfl rfl (by omega) (by first | (simp; done) | omega)) rfl rfl (Va (Qi rfl XX rfl (k3.cell (k := 12) (UU (by rw [show z.length = 128 from hz]; exact (by omega))))) rfl rfl (Va (XM (r := z[12]?.getD 0) rfl Tryd.underlying5 Tryd.underlying3 rfl (Qn (by omega))) rfl rfl (Va (QR (r := 14 + (z[12]?.getD 0)) rfl rfl rfl (Qn (by omega))) rfl rfl (Va (VI (o1 := 14) (m := q) (c := 114) 14 (14 + q) rfl Tryd.underlying75 Qx rfl rfl rfl (by omega) (by omega) (by omega) (by omega) (by omega) rfl (by omega) rfl) rfl rfl ?_))))
      refine Ge (Vt (rs := []) (news := (Vq ((z.drop 14).take q))) rfl XY rfl rfl k70 (JH k3 14 q 114 (by omega) (by omega) (by unfold maxLen; omega)) (Qft ((z.drop 14).take q)) (by rw [List.length_nil, List.length_map, hdl]; unfold maxLen; omega) (by rw [List.length_nil, List.length_map, hdl]; omega)) rfl rfl ?_
      rintro u81 W78 ⟨B82, k79, g80⟩
      have n84 : W2.heap.size ≠ B82 := k8.grow_ne g80 n75
      have n85 : W7.heap.size ≠ B82 := k67.grow_ne g80 n76
      have l86 := g80.le l77 hB.size
      replace k3 := k3.grow g80 n74
      replace k8 := k8.grow g80 n75
      replace k67 := k67.grow g80 n76
      replace hB := g80.below hB l77 hB.size
      rw [List.nil_append] at k79
      refine Va (Qm (o1 := 3) rfl Y5 rfl rfl) rfl rfl ?_
      refine WL.do (Qh (cs' := [.int .i64 (Za ((z.take 6).drop n)), .int .i64 (Za (((z.drop 8).take 4).drop m)), .int .u8 (z[13]?.getD 0), u81]) (vs := [u81]) rfl H4 rfl rfl (Uo k79.one) (oC k79.one Qk) k67 rfl (nB rfl) rfl) rfl ?_
      rintro _ W87 ⟨k89, o88⟩
      replace k3 := k3.other o88 n18
      replace k8 := k8.other o88 n19
      replace k79 := k79.other o88 n85.symm
      clear k67
      replace hB := o88.below hB l20
      refine Ni (hK68 (Sq fun K90 hK90 => (Sq fun K91 hK91 => ?_)))
      have hpg : Za ((z.take 6).drop n) = (V2 z).gen := by rw [hn0, List.drop_zero]; exact (QdM hz hbz (by first | assumption | omega | simp_all) (by first | assumption | omega | simp_all)).symm
      have hpi : Za (((z.drop 8).take 4).drop m) = (V2 z).idx := by rw [hm0, List.drop_zero]; exact (QdN hz hbz).symm
      rw [hpg, hpi] at k89
      have hpd : (V2 z).dat = ((z.drop 14).take q) := by show (z.drop 14).take (z[12]?.getD 0).toNat = _; rw [hq]; rfl
      have hpm : (V2 z).mks = z[13]?.getD 0 := rfl
      replace k89 : Xe W87 W7.heap.size [.int .i64 (V2 z).gen, .int .i64 (V2 z).idx, .int .u8 (V2 z).mks, u81] := k89
      obtain ⟨b92, hb92⟩ : ∃ b, b = (decide ((V2 z).gen < 1)) := ⟨_, rfl⟩
      obtain ⟨b93, hb93⟩ : ∃ b, b = (b92 || (decide (1099511627776 < (V2 z).gen))) := ⟨_, rfl⟩
      obtain ⟨b94, hb94⟩ : ∃ b, b = (b93 || (decide (3 < (V2 z).mks))) := ⟨_, rfl⟩
      refine dM 19 [(some 59, .is (.pointer (some ⟨W7.heap.size, 0, none⟩))), (some 60, .is (.int .i64 ((V2 z).gen))), (some 61, .is (.bool (decide ((V2 z).gen < 1)))), (some 62, .is (.bool b92)), (some 63, .is (bif b92 then undef else .pointer (some ⟨W7.heap.size, 0, none⟩))), (some 64, .is (bif b92 then undef else .int .i64 ((V2 z).gen))), (some 65, .is (bif b92 then undef else .bool (decide (1099511627776 < (V2 z).gen)))), (some 66, .is (.bool (b92 || (decide (1099511627776 < (V2 z).gen))))), (some 67, .is (.bool b93)), (some 68, .is (bif b93 then undef else .pointer (some ⟨W7.heap.size, 2, none⟩))), (some 69, .is (bif b93 then undef else .int .u8 ((V2 z).mks))), (some 70, .is (bif b93 then undef else .bool (decide (3 < (V2 z).mks)))), (some 71, .is (.bool (b93 || (decide (3 < (V2 z).mks))))), (some 72, .is (.bool b94)), (some 73, .is (bif b94 then undef else .agg #[.int .i64 ((V2 z).gen), .int .i64 ((V2 z).idx), .int .u8 ((V2 z).mks), u81])), (some 74, .is (bif b94 then undef else .agg (Qq (Xj (V2 z))).toArray)), (some 75, .is (bif b94 then undef else .agg (Qq z).toArray)), (some 76, .is (bif b94 then undef else .bool (!(decide ((Xj (V2 z)) = z))))), (some 77, .is (.bool (b94 || (!(decide ((Xj (V2 z)) = z))))))] [[], [0], [1], [2], [3], [4, 3], [5, 3], [3, 6], [7, 3], [8], [9, 8], [10, 8], [8, 11], [12, 8], [13], [14, 13, 13], [13], [15, 16, 13], [13, 17]] (by exact trivial) ?_ ?_
      .
       refine Dc (fun Wd hd => ?_) ?_
       .
        exact Dd (Qm (o1 := 0) rfl Z4 rfl rfl) rfl
       refine Dc (fun Wd hd => ?_) ?_
       .
        have k89 := k89.below hd
        exact Dd (Qi rfl Qu rfl (k89.cell (k := 0) rfl)) rfl
       refine Dc (fun Wd hd => ?_) ?_
       .
        exact Dd (Xh rfl rfl rfl) rfl
       refine Dc (fun Wd hd => ?_) ?_
       .
        exact DV.dr (Qt rfl rfl) ⟨Below.refl _ _, by rw [hb92]; rfl⟩
       refine Dc (fun Wd hd => ?_) ?_
       .
        cases b92
        .
         exact Dd (Qm (o1 := 0) rfl Z4 rfl rfl) rfl
        .
         exact Dd (Xc rfl) rfl
       refine Dc (fun Wd hd => ?_) ?_
       .
        cases b92
        .
         have k89 := k89.below hd
         exact Dd (Qi rfl Qu rfl (k89.cell (k := 0) rfl)) rfl
        .
         exact Dd (Xc rfl) rfl
       refine Dc (fun Wd hd => ?_) ?_
       .
        cases b92
        .
         exact Dd (XQ rfl rfl rfl) rfl
        .
         exact Dd (Xc rfl) rfl
       refine Dc (fun Wd hd => ?_) ?_
       .
        cases b92
        .
         exact Dd (ZO rfl rfl rfl) rfl
        .
         exact Dd (ZO rfl rfl rfl) rfl
       refine Dc (fun Wd hd => ?_) ?_
       .
        exact DV.dr (Qt rfl rfl) ⟨Below.refl _ _, by rw [hb93]; rfl⟩
       refine Dc (fun Wd hd => ?_) ?_
       .
        cases b93
        .
         exact Dd (Qm (o1 := 2) rfl Zs rfl rfl) rfl
        .
         exact Dd (Xc rfl) rfl
       refine Dc (fun Wd hd => ?_) ?_
       .
        cases b93
        .
         have k89 := k89.below hd
         exact Dd (Qi rfl XX rfl (k89.cell (k := 2) rfl)) rfl
        .
         exact Dd (Xc rfl) rfl
       refine Dc (fun Wd hd => ?_) ?_
       .
        cases b93
        .
         exact Dd (XQ rfl rfl rfl) rfl
        .
         exact Dd (Xc rfl) rfl
       refine Dc (fun Wd hd => ?_) ?_
       .
        cases b93
        .
         exact Dd (ZO rfl rfl rfl) rfl
        .
         exact Dd (ZO rfl rfl rfl) rfl
       refine Dc (fun Wd hd => ?_) ?_
       .
        exact DV.dr (Qt rfl rfl) ⟨Below.refl _ _, by rw [hb94]; rfl⟩
       refine Dc (fun Wd hd => ?_) ?_
       .
        cases b94
        .
         have k89 := k89.below hd
         exact Dd (Qg rfl XB rfl k89.range rfl) rfl
        .
         exact Dd (Xc rfl) rfl
       refine Dc (fun Wd hd => ?_) ?_
       .
        cases b94
        .
         have k79 := k79.below hd
         exact DR.mono (QO rfl Tryd.func67 rfl rfl rfl (Dw (V2 z) _ Wd [] (LL.nil _) (by rw [hpd]; exact (k79.rd (L := []) (by simp))) (by rw [hpd]; exact VV hbz _ _) (by rw [hpd, hdl]; omega) (by rw [hpm]; exact hb13) (hR.below (Qe hB hd)))) (fun v W' ⟨h, hb⟩ => ⟨hb, (by rw [h]; exact rfl)⟩)
        .
         exact Dd (Xc rfl) rfl
       refine Dc (fun Wd hd => ?_) ?_
       .
        cases b94
        .
         have hkz := k3.below hd
         exact Dd (Qg rfl QA rfl hkz.range (by rw [Qo]; exact hz)) rfl
        .
         exact Dd (Xc rfl) rfl
       refine Dc (fun Wd hd => ?_) ?_
       .
        cases b94
        .
         exact Dd (D2 (K := .u8) (xs := (Xj (V2 z))) (ys := z) rfl Tryd.underlying75 Tryd.underlying5 Qx (by kernel_rfl) rfl rfl (Z5 (by rw [hpd, hdl]; omega)) hz) rfl
        .
         exact Dd (Xc rfl) rfl
       refine Dc (fun Wd hd => ?_) ?_
       .
        cases b94
        .
         exact Dd (ZO rfl rfl rfl) rfl
        .
         exact Dd (ZO rfl rfl rfl) rfl
       exact trivial
      .
       intro W95 b96
       replace k8 := k8.below b96
       replace k89 := k89.below b96
       replace k79 := k79.below b96
       replace hB := Qe hB b96
       refine Ni (hK91 ?_)
       refine WC.cond rfl (fun c97 => ?_) (fun c97 => ?_)
       .
        refine Sq fun K98 hK98 => (Rg (Va (QP rfl rfl Qbd) rfl rfl ?_))
        refine WL.do (Qh (cs' := [.int .i64 0, .int .i64 0, .int .u8 0, .slice none 0 0]) (vs := [.int .i64 0, .int .i64 0, .int .u8 0, .slice none 0 0]) rfl ZG rfl rfl rfl (oC rfl (oC rfl (oC rfl (oC rfl Qk)))) k8 rfl (nB rfl) rfl) rfl ?_
        rintro _ W99 ⟨k101, o100⟩
        clear k8
        replace hB := o100.below hB l12
        refine Pu rfl (Ni (hK98 ?_))
        exact WC.ret fun a_ ha_ => hQ (QM rfl (.agg rfl XB k101.range rfl) (.tmp rfl) ⟨⟨0, 0, 0, []⟩, _, false, rfl, QC.nil (by decide), Qeh (by by_cases hbad : VM z; exact .inl hbad; refine .inr fun hs => ?_; unfold VM at hbad; have hgg : (V2 z).gen = X4 ((z.drop 0).take 8) := rfl; rw [<- hgg, <- hpm] at hbad; first | omega | (simp_all; done) | (simp_all; omega)), fun x hx => (by cases hx), by show 0 <= 100; omega, by show (0 : Int) <= 0 /\ (0 : Int) <= 255; omega⟩ hB ha_)
       .
        obtain ⟨g102, g103⟩ := Qac c97
        replace g102 := ZN g102
        replace g103 := Q4 g103
        replace g103 := dT g103
        refine WC.skip (hK90 (Sq fun K104 hK104 => (Rg (Va (Qg rfl XB rfl k89.range rfl) rfl rfl ?_))))
        refine WL.do (Qh (cs' := [.int .i64 ((V2 z).gen), .int .i64 ((V2 z).idx), .int .u8 ((V2 z).mks), u81]) (vs := [.int .i64 ((V2 z).gen), .int .i64 ((V2 z).idx), .int .u8 ((V2 z).mks), u81]) rfl ZG rfl rfl rfl (oC rfl (oC rfl (oC rfl (oC k79.one Qk)))) k8 rfl (nB rfl) rfl) rfl ?_
        rintro _ W105 ⟨k107, o106⟩
        replace k79 := k79.other o106 n84.symm
        clear k8
        replace hB := o106.below hB l12
        refine Pu rfl (Ni (hK104 ?_))
        exact WC.ret fun a_ ha_ => hQ (QM rfl (.agg rfl XB k107.range rfl) (.tmp rfl) ⟨V2 z, _, true, rfl, by rw [hpd]; exact (k79.rd (fun h_ => by have := hL0 _ h_; have := l86; omega)), (by have hnb : ¬ VM z := (by unfold VM; have hgg : (V2 z).gen = X4 ((z.drop 0).take 8) := rfl; rw [<- hgg, <- hpm]; first | omega | (simp_all; done) | (simp_all; omega)); have h_ := Qbs hnb rfl; rw [decide_eq_true (by first | assumption | (simp_all; done))] at h_; exact h_), by rw [hpd]; exact VV hbz _ _, by rw [hpd, hdl]; exact hq100, by rw [hpm]; exact hb13⟩ hB ha_)

theorem Qax {n : Int} (h : ¬ n < 0) (h2 : ¬ 4096 < n) : X2 n = if (1 : Int) < (n + 99) / 100 then (n + 99) / 100 else 1 := by
 unfold X2
 rw [if_neg (show ¬ (n < 0 \/ 4096 < n) by omega)]
 split <;> split <;> omega
set_option maxHeartbeats 1000000 in
theorem Fa (n : Int) (w : World) (L : List Nat) (hL : LL L w)   (hn : -9223372036854775808 <= n /\ n <= 9223372036854775807) : CV Tryd.prog 23 [.int .i64 n] w fun v W => v = .int .i64 (X2 n) := by
 refine QL (N := 13) (f := [(0, .int .i64 n)]) Tryd.func23 rfl rfl rfl rfl fun Q hQ hE => ?_
 have hB := Below.refl w.heap.size w
 refine Sq fun K1 hK1 => (Rg (Pu rfl (Ni (hK1 (Sq fun K2 hK2 => (Sq fun K3 hK3 => (Rg ?_)))))))
 refine Pu rfl (Va (Xh rfl rfl rfl) rfl rfl (Pu rfl ?_))
 refine WL.split 5 rfl (fun g4 => ?_) (fun g4 => ?_)
 .
  replace g4 := dT g4
  refine Of rfl (Of rfl (Pu rfl (Ni (hK3 (WC.condT rfl (Sq fun K5 hK5 => (Rg ?_)))))))
  refine Pu rfl (Ni (hK5 ?_))
  exact WC.ret fun a_ ha_ => hQ (QI rfl (.tmp rfl) (by rw [U1 (by omega)]) hB ha_)
 .
  replace g4 := dF g4
  refine Pu rfl (Va (XQ rfl rfl rfl) rfl rfl (Pu rfl (Ni (hK3 ?_))))
  refine WC.cond rfl (fun c6 => ?_) (fun c6 => ?_)
  .
   replace c6 := dT c6
   refine Sq fun K7 hK7 => (Rg (Pu rfl (Ni (hK7 ?_))))
   exact WC.ret fun a_ ha_ => hQ (QI rfl (.tmp rfl) (by rw [U1 (by omega)]) hB ha_)
  .
   replace c6 := dF c6
   refine WC.skip (hK2 (Sq fun K8 hK8 => (Rg (Pu rfl (Va (QR (r := n + 99) rfl rfl rfl (Qn (by omega))) rfl rfl (Va (Vn (r := (n + 99) / 100) rfl rfl rfl (by omega) (by rw [Int.tdiv_eq_ediv_of_nonneg (by omega)]; exact (Qn (by omega)))) rfl rfl (Va (Fu (K := .i64) (m := 1) (n := (n + 99) / 100) rfl rfl rfl) rfl rfl ?_)))))))
   refine Pu rfl (Ni (hK8 ?_))
   exact WC.ret fun a_ ha_ => hQ (QI rfl (.tmp rfl) (by rw [Qax (by omega) (by omega)]) hB ha_)

theorem Vs {n half gen used : Int} : Yn n half gen used = 0 ↔ ((half = 0 \/ half = 1) /\ 1 <= gen /\ gen <= 1099511627776 /\ 1 <= used /\ used <= n / 2) := by
  unfold Yn
  constructor
  . intro h
    split at h
    . cases h
    . omega
  . intro h
    rw [if_neg (by omega)]
set_option maxHeartbeats 1000000 in
theorem DK (Qb : List (List Int)) (Qa : List (Int × List Int)) (Qd : Int) (Qc : Bool) (s1 s2 : Value) (w : World) (L : List Nat) (hL : LL L w) (h1 : QC 128 L w s1 (Qb.map Qq)) (h2 : QC 129 L w s2 (Qa.map QD)) : CV Tryd.prog 34 [.agg #[s1, s2, .int .i64 Qd, .bool Qc]] w fun v W => v = .bool (QH Qb Qa && decide (8 <= (Qb.length : Int))) := by
 refine QL (N := 11) (f := [(0, .agg #[s1, s2, .int .i64 Qd, .bool Qc])]) Tryd.func34 rfl rfl rfl rfl fun Q hQ hE => ?_
 have hB := Below.refl w.heap.size w
 have h1m : Qb.length <= maxLen := by have := h1.len; rwa [List.length_map] at this
 unfold maxLen at h1m
 have h2m : Qa.length <= maxLen := by have := h2.len; rwa [List.length_map] at this
 unfold maxLen at h2m
 refine Sq fun K1 hK1 => (Rg ?_)
 refine Ge (Xb rfl rfl rfl) rfl rfl ?_
 rintro _ W2 ⟨rfl, k3, b4, z5⟩
 have l6 := hB.size
 replace h1 := h1.more b4 (Nat.le_refl _)
 replace h2 := h2.more b4 (Nat.le_refl _)
 replace hB := Qe hB b4
 replace hL := LL.more hL z5
 refine Pu rfl (Ni (hK1 (Sq fun K7 hK7 => (Rg (Va (Qg rfl Qf rfl k3.range rfl) rfl rfl ?_)))))
 refine Ge (QO rfl Tryd.func56 rfl rfl rfl (JQ Qb Qa Qd Qc _ _ W2 _ hL h1 h2)) rfl rfl ?_
 rintro _ W9 ⟨rfl, b8⟩
 replace h1 := h1.below b8
 replace k3 := k3.below b8
 replace hB := Qe hB b8
 refine Pu rfl ?_
 refine WL.split 5 rfl (fun g10 => ?_) (fun g10 => ?_)
 .
  refine Va (Qm (o1 := 0) rfl QE rfl rfl) rfl rfl (Va (Qi rfl Q9 rfl (k3.cell (k := 0) rfl)) rfl rfl (Va (QY rfl QX rfl h1) rfl rfl (Va (Yo rfl rfl rfl) rfl rfl (Pu rfl (Pu rfl (Ni (hK7 ?_)))))))
  exact WC.ret fun a_ ha_ => hQ (QI rfl (.tmp rfl) (by cases hr_ : QH Qb Qa <;> simp_all) hB ha_)
 .
  refine Of rfl (Of rfl (Of rfl (Of rfl (Pu rfl (Pu rfl (Ni (hK7 ?_)))))))
  exact WC.ret fun a_ ha_ => hQ (QI rfl (.tmp rfl) (by cases hr_ : QH Qb Qa <;> simp_all) hB ha_)

set_option maxHeartbeats 1000000 in
theorem QaC (Qb : List (List Int)) (Qa : List (Int × List Int)) (Qd : Int) (Qc : Bool) (s1 s2 : Value) (half gen used : Int) (w : World) (L : List Nat) (hL : LL L w) (h1 : QC 128 L w s1 (Qb.map Qq)) (h2 : QC 129 L w s2 (Qa.map QD))  (hsl : Qb.length <= 100000) : CV Tryd.prog 45 [.agg #[s1, s2, .int .i64 Qd, .bool Qc], .agg #[.int .i64 half, .int .i64 gen, .int .i64 used]] w fun v W => ∃ b, v = .bool b /\ (b = true ↔ Yn (Qb.length : Int) half gen used = 0) := by
 refine QL (N := 37) (f := [(0, .agg #[s1, s2, .int .i64 Qd, .bool Qc]), (1, .agg #[.int .i64 half, .int .i64 gen, .int .i64 used])]) Tryd.func45 rfl rfl rfl rfl fun Q hQ hE => ?_
 have hB := Below.refl w.heap.size w
 have h1m : Qb.length <= maxLen := by have := h1.len; rwa [List.length_map] at this
 unfold maxLen at h1m
 have h2m : Qa.length <= maxLen := by have := h2.len; rwa [List.length_map] at this
 unfold maxLen at h2m
 refine Sq fun K1 hK1 => (Rg ?_)
 refine Ge (Xb rfl rfl rfl) rfl rfl ?_
 rintro _ W2 ⟨rfl, k3, b4, z5⟩
 have l6 := hB.size
 replace h1 := h1.more b4 (Nat.le_refl _)
 replace hB := Qe hB b4
 refine Ge (Xb rfl rfl rfl) rfl rfl ?_
 rintro _ W7 ⟨rfl, k8, b9, z10⟩
 have l12 := hB.size
 replace h1 := h1.more b9 (Nat.le_refl _)
 replace k3 := k3.below b9
 replace hB := Qe hB b9
 refine Pu rfl (Ni (hK1 (Sq fun K13 hK13 => (Rg (Va (Qm (o1 := 0) rfl ZM rfl rfl) rfl rfl (Va (Qi rfl Qu rfl (k8.cell (k := 0) rfl)) rfl rfl (Va (Zo rfl rfl rfl) rfl rfl ?_)))))))
 refine Pu rfl ?_
 refine WL.split 8 rfl (fun g14 => ?_) (fun g14 => ?_)
 .
  replace g14 := dT g14
  refine Of rfl (Of rfl (Of rfl (Pu rfl (Pu rfl (Va (Qm (o1 := 1) rfl XN rfl rfl) rfl rfl (Va (Qi rfl Qu rfl (k8.cell (k := 1) rfl)) rfl rfl (Va (Yo rfl rfl rfl) rfl rfl ?_)))))))
  refine Pu rfl (Pu rfl ?_)
  refine WL.split 18 rfl (fun g15 => ?_) (fun g15 => ?_)
  .
   replace g15 := dT g15
   refine Va (Qm (o1 := 1) rfl XN rfl rfl) rfl rfl (Va (Qi rfl Qu rfl (k8.cell (k := 1) rfl)) rfl rfl (Va (Fw rfl rfl rfl) rfl rfl (Pu rfl (Pu rfl ?_))))
   refine WL.split 23 rfl (fun g16 => ?_) (fun g16 => ?_)
   .
    replace g16 := dT g16
    refine Va (Qm (o1 := 2) rfl Xf rfl rfl) rfl rfl (Va (Qi rfl Qu rfl (k8.cell (k := 2) rfl)) rfl rfl (Va (Yo rfl rfl rfl) rfl rfl (Pu rfl (Pu rfl ?_))))
    refine WL.split 28 rfl (fun g17 => ?_) (fun g17 => ?_)
    .
     replace g17 := dT g17
     refine Va (Qm (o1 := 2) rfl Xf rfl rfl) rfl rfl (Va (Qi rfl Qu rfl (k8.cell (k := 2) rfl)) rfl rfl (Va (Qm (o1 := 0) rfl QE rfl rfl) rfl rfl (Va (Qi rfl Q9 rfl (k3.cell (k := 0) rfl)) rfl rfl (Va (QY rfl QX rfl h1) rfl rfl (Va (Vn (r := (Qb.length : Int) / 2) rfl rfl rfl (by omega) (by rw [Int.tdiv_eq_ediv_of_nonneg (by omega)]; exact (Qn (by omega)))) rfl rfl (Va (Fw rfl rfl rfl) rfl rfl (Pu rfl ?_)))))))
     refine Pu rfl (Ni (hK13 ?_))
     exact WC.ret fun a_ ha_ => hQ (QI rfl (.tmp rfl) ⟨_, rfl, by rw [Vs]; constructor <;> intro h_ <;> first | omega | (cases h_; done) | (simp at h_; omega) | (simp; omega) | (simp_all; omega)⟩ hB ha_)
    .
     replace g17 := dF g17
     refine Of rfl (Of rfl (Of rfl (Of rfl (Of rfl (Of rfl (Of rfl (Pu rfl ?_)))))))
     refine Pu rfl (Ni (hK13 ?_))
     exact WC.ret fun a_ ha_ => hQ (QI rfl (.tmp rfl) ⟨_, rfl, by rw [Vs]; constructor <;> intro h_ <;> first | omega | (cases h_; done) | (simp at h_; omega) | (simp; omega) | (simp_all; omega)⟩ hB ha_)
   .
    replace g16 := dF g16
    refine Of rfl (Of rfl (Of rfl (Pu rfl (Pu rfl (Of rfl (Of rfl (Of rfl ?_)))))))
    refine Of rfl (Of rfl (Of rfl (Of rfl (Pu rfl (Pu rfl (Ni (hK13 ?_)))))))
    exact WC.ret fun a_ ha_ => hQ (QI rfl (.tmp rfl) ⟨_, rfl, by rw [Vs]; constructor <;> intro h_ <;> first | omega | (cases h_; done) | (simp at h_; omega) | (simp; omega) | (simp_all; omega)⟩ hB ha_)
  .
   replace g15 := dF g15
   refine Of rfl (Of rfl (Of rfl (Pu rfl (Pu rfl (Of rfl (Of rfl (Of rfl ?_)))))))
   refine Pu rfl (Pu rfl (Of rfl (Of rfl (Of rfl (Of rfl (Of rfl (Of rfl ?_)))))))
   refine Of rfl (Pu rfl (Pu rfl (Ni (hK13 ?_))))
   exact WC.ret fun a_ ha_ => hQ (QI rfl (.tmp rfl) ⟨_, rfl, by rw [Vs]; constructor <;> intro h_ <;> first | omega | (cases h_; done) | (simp at h_; omega) | (simp; omega) | (simp_all; omega)⟩ hB ha_)
 .
  replace g14 := dF g14
  refine Va (Qm (o1 := 0) rfl ZM rfl rfl) rfl rfl (Va (Qi rfl Qu rfl (k8.cell (k := 0) rfl)) rfl rfl (Va (Zo rfl rfl rfl) rfl rfl (Pu rfl (Pu rfl ?_))))
  refine WL.split 13 rfl (fun g18 => ?_) (fun g18 => ?_)
  .
   replace g18 := dT g18
   refine Va (Qm (o1 := 1) rfl XN rfl rfl) rfl rfl (Va (Qi rfl Qu rfl (k8.cell (k := 1) rfl)) rfl rfl (Va (Yo rfl rfl rfl) rfl rfl (Pu rfl (Pu rfl ?_))))
   refine WL.split 18 rfl (fun g19 => ?_) (fun g19 => ?_)
   .
    replace g19 := dT g19
    refine Va (Qm (o1 := 1) rfl XN rfl rfl) rfl rfl (Va (Qi rfl Qu rfl (k8.cell (k := 1) rfl)) rfl rfl (Va (Fw rfl rfl rfl) rfl rfl (Pu rfl (Pu rfl ?_))))
    refine WL.split 23 rfl (fun g20 => ?_) (fun g20 => ?_)
    .
     replace g20 := dT g20
     refine Va (Qm (o1 := 2) rfl Xf rfl rfl) rfl rfl (Va (Qi rfl Qu rfl (k8.cell (k := 2) rfl)) rfl rfl (Va (Yo rfl rfl rfl) rfl rfl (Pu rfl (Pu rfl ?_))))
     refine WL.split 28 rfl (fun g21 => ?_) (fun g21 => ?_)
     .
      replace g21 := dT g21
      refine Va (Qm (o1 := 2) rfl Xf rfl rfl) rfl rfl (Va (Qi rfl Qu rfl (k8.cell (k := 2) rfl)) rfl rfl (Va (Qm (o1 := 0) rfl QE rfl rfl) rfl rfl (Va (Qi rfl Q9 rfl (k3.cell (k := 0) rfl)) rfl rfl (Va (QY rfl QX rfl h1) rfl rfl (Va (Vn (r := (Qb.length : Int) / 2) rfl rfl rfl (by omega) (by rw [Int.tdiv_eq_ediv_of_nonneg (by omega)]; exact (Qn (by omega)))) rfl rfl (Va (Fw rfl rfl rfl) rfl rfl (Pu rfl ?_)))))))
      refine Pu rfl (Ni (hK13 ?_))
      exact WC.ret fun a_ ha_ => hQ (QI rfl (.tmp rfl) ⟨_, rfl, by rw [Vs]; constructor <;> intro h_ <;> first | omega | (cases h_; done) | (simp at h_; omega) | (simp; omega) | (simp_all; omega)⟩ hB ha_)
     .
      replace g21 := dF g21
      refine Of rfl (Of rfl (Of rfl (Of rfl (Of rfl (Of rfl (Of rfl (Pu rfl ?_)))))))
      refine Pu rfl (Ni (hK13 ?_))
      exact WC.ret fun a_ ha_ => hQ (QI rfl (.tmp rfl) ⟨_, rfl, by rw [Vs]; constructor <;> intro h_ <;> first | omega | (cases h_; done) | (simp at h_; omega) | (simp; omega) | (simp_all; omega)⟩ hB ha_)
    .
     replace g20 := dF g20
     refine Of rfl (Of rfl (Of rfl (Pu rfl (Pu rfl (Of rfl (Of rfl (Of rfl ?_)))))))
     refine Of rfl (Of rfl (Of rfl (Of rfl (Pu rfl (Pu rfl (Ni (hK13 ?_)))))))
     exact WC.ret fun a_ ha_ => hQ (QI rfl (.tmp rfl) ⟨_, rfl, by rw [Vs]; constructor <;> intro h_ <;> first | omega | (cases h_; done) | (simp at h_; omega) | (simp; omega) | (simp_all; omega)⟩ hB ha_)
   .
    replace g19 := dF g19
    refine Of rfl (Of rfl (Of rfl (Pu rfl (Pu rfl (Of rfl (Of rfl (Of rfl ?_)))))))
    refine Pu rfl (Pu rfl (Of rfl (Of rfl (Of rfl (Of rfl (Of rfl (Of rfl ?_)))))))
    refine Of rfl (Pu rfl (Pu rfl (Ni (hK13 ?_))))
    exact WC.ret fun a_ ha_ => hQ (QI rfl (.tmp rfl) ⟨_, rfl, by rw [Vs]; constructor <;> intro h_ <;> first | omega | (cases h_; done) | (simp at h_; omega) | (simp; omega) | (simp_all; omega)⟩ hB ha_)
  .
   replace g18 := dF g18
   refine Of rfl (Of rfl (Of rfl (Pu rfl (Pu rfl (Of rfl (Of rfl (Of rfl ?_)))))))
   refine Pu rfl (Pu rfl (Of rfl (Of rfl (Of rfl (Pu rfl (Pu rfl (Of rfl ?_)))))))
   refine Of rfl (Of rfl (Of rfl (Of rfl (Of rfl (Of rfl (Pu rfl (Pu rfl ?_)))))))
   refine Ni (hK13 ?_)
   exact WC.ret fun a_ ha_ => hQ (QI rfl (.tmp rfl) ⟨_, rfl, by rw [Vs]; constructor <;> intro h_ <;> first | omega | (cases h_; done) | (simp at h_; omega) | (simp; omega) | (simp_all; omega)⟩ hB ha_)

set_option maxHeartbeats 1000000 in
theorem Dy (Qb : List (List Int)) (Qa : List (Int × List Int)) (Qd : Int) (Qc : Bool) (s1 s2 : Value) (w : World) (L : List Nat) (hL : LL L w) (h1 : QC 128 L w s1 (Qb.map Qq)) (h2 : QC 129 L w s2 (Qa.map QD))  (hbd : YJ Qb Qa) (hsl : Qb.length <= 100000) (hR : UD w) : CV Tryd.prog 36 [.agg #[s1, s2, .int .i64 Qd, .bool Qc]] w fun v W => v = .int .i64 (Ze Qb Qa Qc Qb.length + 1) := by
 refine QL (N := 34) (f := [(0, .agg #[s1, s2, .int .i64 Qd, .bool Qc])]) Tryd.func36 rfl rfl rfl rfl fun Q hQ hE => ?_
 have hB := Below.refl w.heap.size w
 have h1m : Qb.length <= maxLen := by have := h1.len; rwa [List.length_map] at this
 unfold maxLen at h1m
 have h2m : Qa.length <= maxLen := by have := h2.len; rwa [List.length_map] at this
 unfold maxLen at h2m
 refine Sq fun K1 hK1 => (Rg ?_)
 refine Ge (Xb rfl rfl rfl) rfl rfl ?_
 rintro _ W2 ⟨rfl, k3, b4, z5⟩
 have l6 := hB.size
 replace h1 := h1.more b4 (Nat.le_refl _)
 replace h2 := h2.more b4 (Nat.le_refl _)
 replace hB := Qe hB b4
 replace hL := LL.more hL z5
 refine Pu rfl (Ni (hK1 (Sq fun K7 hK7 => (Rg (Pu rfl (Ni (hK7 ?_)))))))
 refine Sq fun K8 hK8 => (Sq fun K9 hK9 => (Rg (Pu rfl (Ni (hK9 (WC.block ?_))))))
 refine WC.loop (fun (i : Nat) => [(1, .pointer (some ⟨w.heap.size, 0, none⟩)), (4, .int .i64 (i : Int)), (3, .int .i64 (Ze Qb Qa Qc i))]) (fun (i : Nat) W => i <= Qb.length /\ Below w.heap.size w W /\ LL (w.heap.size :: L) W /\ QC 128 (w.heap.size :: L) W s1 (Qb.map Qq) /\ QC 129 (w.heap.size :: L) W s2 (Qa.map QD) /\ Xe W w.heap.size [s1, s2, .int .i64 Qd, .bool Qc]) (fun (i : Nat) => Qb.length - i) 0 (by repeat first | exact trivial | refine aR ?_ | refine aI (by omega) ?_) ⟨Nat.zero_le _, hB, hL, h1, h2, k3⟩ ?_
 clear h1 h2 k3 hB hL
 rintro K10 i W11 ⟨hi, hB, hL, h1, h2, k3⟩ hK10
 refine Sq fun K12 hK12 => (Sq fun K13 hK13 => (Rg (Pu rfl (Va (Qm (o1 := 0) rfl QE rfl rfl) rfl rfl (Va (Qi rfl Q9 rfl (k3.cell (k := 0) rfl)) rfl rfl (Va (QY rfl QX rfl h1) rfl rfl (Va (Xh rfl rfl rfl) rfl rfl ?_)))))))
 refine Ni (hK13 ?_)
 refine WC.cond rfl (fun c14 => ?_) (fun c14 => ?_)
 .
  replace c14 := dT c14
  refine WC.skip (hK12 (Sq fun K15 hK15 => (WC.block (Sq fun K16 hK16 => (Rg (Va (Qg rfl Qf rfl k3.range rfl) rfl rfl (Pu rfl ?_)))))))
  refine Ge (QO rfl Tryd.func59 rfl rfl rfl (Qdp Qb Qa Qd Qc _ _ (i : Int) W11 _ hL h1 h2)) rfl rfl ?_
  rintro _ W18 ⟨rfl, b17⟩
  replace h1 := h1.below b17
  replace h2 := h2.below b17
  replace k3 := k3.below b17
  replace hB := Qe hB b17
  replace hL := LL.below hL b17
  refine Pu rfl (Pu rfl (Pu rfl ?_))
  refine Ge (Qs (cs := Qq z0) rfl Zx Ye) rfl rfl ?_
  rintro _ W19 ⟨rfl, k20, b21, z22⟩
  have n23 : w.heap.size ≠ W18.heap.size := Nat.ne_of_lt k3.lt
  have l24 := hB.size
  replace h1 := h1.more b21 (Nat.le_refl _)
  replace h2 := h2.more b21 (Nat.le_refl _)
  replace k3 := k3.below b21
  replace hB := Qe hB b21
  replace hL := LL.more hL z22
  refine WL.do (QB (vs := (Qq ((Xl Qb Qa Qc (i : Int)).1))) rfl Q2 rfl rfl rfl (YT ((Xl Qb Qa Qc (i : Int)).1)) k20 (by rw [Qo]; exact (Yh h1 h2)) (by rw [Qo]; exact Xy)) rfl ?_
  rintro _ W25 ⟨k27, o26⟩
  replace k3 := k3.other o26 n23
  clear k20
  replace h1 := h1.only o26 (.head _)
  replace h2 := h2.only o26 (.head _)
  replace hB := o26.below hB l24
  replace hL := LL.only hL o26
  refine Pu rfl (Ni (hK16 (Sq fun K28 hK28 => (Rg (Va (Qg rfl QA rfl k27.range (by rw [Qo]; exact (Yh h1 h2))) rfl rfl ?_)))))
  refine Ge (QO rfl Tryd.func49 rfl rfl rfl (QaB (Xl Qb Qa Qc (i : Int)).1 W25 _ hL hL (Yh h1 h2) (Kk hbd _ _) (hR.below hB))) rfl rfl ?_
  rintro _ W32 ⟨⟨p30, dvp30, ubp30, rfl, hdp30, hup30, hyp30, hlp30, hmp30⟩, b31⟩
  replace h1 := h1.below b31
  replace h2 := h2.below b31
  replace k3 := k3.below b31
  replace hB := Qe hB b31
  replace hL := LL.below hL b31
  refine Pu rfl (Pu rfl (Pu rfl ?_))
  refine Ge (Qs rfl VA rfl) rfl rfl ?_
  rintro _ W33 ⟨rfl, k34, b35, z36⟩
  have n37 : w.heap.size ≠ W32.heap.size := Nat.ne_of_lt k3.lt
  have l39 := hB.size
  replace h1 := h1.more b35 (Nat.le_refl _)
  replace h2 := h2.more b35 (Nat.le_refl _)
  replace hdp30 := hdp30.more b35 (Nat.le_refl _)
  replace k3 := k3.below b35
  replace hB := Qe hB b35
  replace hL := LL.more hL z36
  refine WL.do (Qh (cs' := [.int .i64 p30.gen, .int .i64 p30.idx, .int .u8 p30.mks, dvp30]) (vs := [.int .i64 p30.gen, .int .i64 p30.idx, .int .u8 p30.mks, dvp30]) rfl ZG rfl rfl rfl (oC rfl (oC rfl (oC rfl (oC hdp30.one Qk)))) k34 rfl (nB rfl) rfl) rfl ?_
  rintro _ W40 ⟨k42, o41⟩
  replace k3 := k3.other o41 n37
  clear k34
  replace h1 := h1.only o41 (.head _)
  replace h2 := h2.only o41 (.head _)
  replace hB := o41.below hB l39
  replace hL := LL.only hL o41
  refine Pu rfl (Ni (hK28 (Sq fun K43 hK43 => ?_)))
  have hmi := VT Qb Qa Qc i
  cases ubp30
  .
   rw [<- Qcl hup30]
   refine Rg (Pu rfl (Ni (hK43 (WC.condF rfl (WC.skip (hK15 (Rg ?_)))))))
   refine Pu rfl (Va (QR (r := (i : Int) + 1) rfl rfl rfl (Qn (by omega))) rfl rfl (Pu rfl (Ni ?_)))
   replace hL := hL.less (fun x hx => (.tail _ (.tail _ hx)))
   replace h1 := h1.less (fun x hx => (.tail _ (.tail _ hx)))
   replace h2 := h2.less (fun x hx => (.tail _ (.tail _ hx)))
   exact hK10 (i + 1) ⟨(by omega), hB, hL, h1, h2, k3⟩ (by omega) (by repeat first | exact trivial | refine aR ?_ | refine aI (by omega) ?_)
  .
   refine Rg (Pu rfl (Ni (hK43 (WC.condT rfl (Rg (Pu rfl (Va (Qm (o1 := 0) rfl Z4 rfl rfl) rfl rfl ?_)))))))
   refine Va (Qi rfl Qu rfl (k42.cell (k := 0) rfl)) rfl rfl (Va (ZS (Fu rfl rfl rfl) (congrArg (Value.int .i64) (Qck hup30).symm)) rfl rfl (Pu rfl (Ni (hK15 (Rg (Pu rfl (Va (QR (r := (i : Int) + 1) rfl rfl rfl (Qn (by omega))) rfl rfl ?_)))))))
   refine Pu rfl (Ni ?_)
   replace hL := hL.less (fun x hx => (.tail _ (.tail _ hx)))
   replace h1 := h1.less (fun x hx => (.tail _ (.tail _ hx)))
   replace h2 := h2.less (fun x hx => (.tail _ (.tail _ hx)))
   exact hK10 (i + 1) ⟨(by omega), hB, hL, h1, h2, k3⟩ (by omega) (by repeat first | exact trivial | refine aR ?_ | refine aI (by omega) ?_)
 .
  replace c14 := dF c14
  refine WC.exit ?_
  refine hK8 (Sq fun K44 hK44 => ?_)
  have hie : i = Qb.length := by omega
  have hmi := VT Qb Qa Qc i
  refine Rg (Pu rfl (Va (QR (r := (Ze Qb Qa Qc i) + 1) rfl rfl rfl (Qn (by omega))) rfl rfl (Pu rfl (Ni (hK44 ?_)))))
  exact WC.ret fun a_ ha_ => hQ (QI rfl (.tmp rfl) (by rw [hie]) hB ha_)

end Go.Proofs.YtfachlmgdlnpoaaDoor
